/- The program's TypeIn and TypeOf. -/
import Derived.Test.YtffmpjcjmffdeaaDoorQCkF
import Derived.Test.YtffmpjcjmffdeaaDoorQG24
namespace Go.Proofs.YtffmpjcjmffdeaaDoor
open Go.RowKit

set_option maxRecDepth 100000 in
set_option maxHeartbeats 4000000 in
theorem implTypeIn (xs : List Bd) (s : Value) (fp : List Nat) (t : Tm) (v : Value) (fe : List Nat) (w : World) (hF : Forms w) (hs : BsAt w xs s fp) (hat : t.At w v fe) :
    Calls Tryd.prog 18 #[s, v] w (MadeTB w ((tyInO xs t).getD (.mk 0 [])) (tyInO xs t).isSome) := by
  obtain ⟨e0, e1, e2, e3, e4, e5, e6, e7, e8, e9, e10, e11, e12, e13, e14, rfl⟩ := hat.agg
  have hb0 : Below w.heap.size w ((w.alloc (Obj.cells #[.int .i64 e0, .string e1, .int .i64 e2, .int .i64 e3, .slice e5 e4 e6, .int .i64 e7, .slice e9 e8 e10, .int .i64 e11, .slice e13 e12 e14] 35)).alloc (Obj.cells #[.int .i64 0, .slice none 0 0] 32)) := ((Below.refl _ _).alloc (Nat.le_refl _) _).alloc (by simp) _
  have HB0 := hid hb0
  have HOUT := hid (fun (W : World) (h : Below (((w.alloc (Obj.cells #[.int .i64 e0, .string e1, .int .i64 e2, .int .i64 e3, .slice e5 e4 e6, .int .i64 e7, .slice e9 e8 e10, .int .i64 e11, .slice e13 e12 e14] 35)).alloc (Obj.cells #[.int .i64 0, .slice none 0 0] 32))).heap.size ((w.alloc (Obj.cells #[.int .i64 e0, .string e1, .int .i64 e2, .int .i64 e3, .slice e5 e4 e6, .int .i64 e7, .slice e9 e8 e10, .int .i64 e11, .slice e13 e12 e14] 35)).alloc (Obj.cells #[.int .i64 0, .slice none 0 0] 32)) W) => two_out h)
  have HCV := hid (implCtxValid xs s fp ((w.alloc (Obj.cells #[.int .i64 e0, .string e1, .int .i64 e2, .int .i64 e3, .slice e5 e4 e6, .int .i64 e7, .slice e9 e8 e10, .int .i64 e11, .slice e13 e12 e14] 35)).alloc (Obj.cells #[.int .i64 0, .slice none 0 0] 32)) (hs.below hb0))
  have HTV := hid (fun (W : World) (h : Below (((w.alloc (Obj.cells #[.int .i64 e0, .string e1, .int .i64 e2, .int .i64 e3, .slice e5 e4 e6, .int .i64 e7, .slice e9 e8 e10, .int .i64 e11, .slice e13 e12 e14] 35)).alloc (Obj.cells #[.int .i64 0, .slice none 0 0] 32))).heap.size ((w.alloc (Obj.cells #[.int .i64 e0, .string e1, .int .i64 e2, .int .i64 e3, .slice e5 e4 e6, .int .i64 e7, .slice e9 e8 e10, .int .i64 e11, .slice e13 e12 e14] 35)).alloc (Obj.cells #[.int .i64 0, .slice none 0 0] 32)) W) => implTermValid t _ fe W (hF.below (below_trans hb0 h)) (hat.below (below_trans hb0 h)))
  have HAT := hid (fun (W : World) (h : Below (((w.alloc (Obj.cells #[.int .i64 e0, .string e1, .int .i64 e2, .int .i64 e3, .slice e5 e4 e6, .int .i64 e7, .slice e9 e8 e10, .int .i64 e11, .slice e13 e12 e14] 35)).alloc (Obj.cells #[.int .i64 0, .slice none 0 0] 32))).heap.size ((w.alloc (Obj.cells #[.int .i64 e0, .string e1, .int .i64 e2, .int .i64 e3, .slice e5 e4 e6, .int .i64 e7, .slice e9 e8 e10, .int .i64 e11, .slice e13 e12 e14] 35)).alloc (Obj.cells #[.int .i64 0, .slice none 0 0] 32)) W) => hat.below (below_trans hb0 h))
  have HZ := hid (fun (W : World) (h : Below (((w.alloc (Obj.cells #[.int .i64 e0, .string e1, .int .i64 e2, .int .i64 e3, .slice e5 e4 e6, .int .i64 e7, .slice e9 e8 e10, .int .i64 e11, .slice e13 e12 e14] 35)).alloc (Obj.cells #[.int .i64 0, .slice none 0 0] 32))).heap.size ((w.alloc (Obj.cells #[.int .i64 e0, .string e1, .int .i64 e2, .int .i64 e3, .slice e5 e4 e6, .int .i64 e7, .slice e9 e8 e10, .int .i64 e11, .slice e13 e12 e14] 35)).alloc (Obj.cells #[.int .i64 0, .slice none 0 0] 32)) W) => (show MadeTB w (.mk 0 []) false (.returned (.tuple #[.agg #[.int .i64 0, .slice none 0 0], .bool false])) (put W (w.heap.size + 1) 0 [.int .i64 0, .slice none 0 0]) from
    ⟨_, [], rfl, no_ty _, Fresh.nil _ _, below_put (below_trans hb0 h) (by omega)⟩))
  obtain ⟨a, cap, hss, hc, hm, hget⟩ := hs.open
  subst hss
  have HG := hid (fun i h => (hget i h))
  obtain ⟨z0, z1, z2, z3, z4, z5, z6, z7, z8⟩ := cells9 (two_out (Below.refl (((w.alloc (Obj.cells #[.int .i64 e0, .string e1, .int .i64 e2, .int .i64 e3, .slice e5 e4 e6, .int .i64 e7, .slice e9 e8 e10, .int .i64 e11, .slice e13 e12 e14] 35)).alloc (Obj.cells #[.int .i64 0, .slice none 0 0] 32))).heap.size ((w.alloc (Obj.cells #[.int .i64 e0, .string e1, .int .i64 e2, .int .i64 e3, .slice e5 e4 e6, .int .i64 e7, .slice e9 e8 e10, .int .i64 e11, .slice e13 e12 e14] 35)).alloc (Obj.cells #[.int .i64 0, .slice none 0 0] 32)))).1
  have HRES := hid (show ctxOk xs = false → tyInO xs t = none from fun h => by simp [tyInO, h])
  have HRES2 := hid (show vldM t = false → tyInO xs t = none from fun h => by simp [tyInO, h])
  have HRES3 := hid (show ctxOk xs = true → vldM t = true → tyInO xs t = tyM xs.reverse t from fun h h' => by simp [tyInO, h, h'])
  clear hget hs hat hF hb0
  go_enter Tryd.func18, Tryd.ntmps18
  go_wp2_with fail
  refine HCV.out.mono ?_
  rintro e w1 ⟨rfl, hb1⟩
  cases hcv : ctxOk xs with
  | false =>
    have FIN := hid (HZ.out w1 hb1)
    simp only [put, Nat.zero_add] at FIN
    have q := (HOUT.out w1 hb1).2
    have r0 : w1.cell? ⟨w.heap.size + 1, 0, none⟩ = some (.int .i64 0) := by rw [cell_of_block q]; rfl
    have r1 : w1.cell? ⟨w.heap.size + 1, 1, none⟩ = some (.slice none 0 0) := by rw [cell_of_block q]; rfl
    have rz := fun o => frozen_of_block (o := o) q
    have rl := lt_of_block q
    have HN := hid (HRES.out hcv)
    clear q hb1 HZ HOUT HCV HTV HAT HG HRES HRES2 HRES3 hcv
    go_wp2_with fail
    exact bodyPost_ret (v := .tuple #[.agg #[.int .i64 0, .slice none 0 0], .bool false]) (by simp [results, Tryd.results18, go_sem, r0, r1]) rfl (by rw [HN.out]; exact FIN.out)
  | true =>
  replace z0 := cell_keep z0 hb1
  replace z1 := cell_keep z1 hb1
  replace z2 := cell_keep z2 hb1
  replace z3 := cell_keep z3 hb1
  replace z4 := cell_keep z4 hb1
  replace z5 := cell_keep z5 hb1
  replace z6 := cell_keep z6 hb1
  replace z7 := cell_keep z7 hb1
  replace z8 := cell_keep z8 hb1
  go_wp2_with fail
  refine (HTV.out w1 hb1).mono ?_
  rintro e w2 ⟨rfl, hb2⟩
  have hb12 := below_trans hb1 hb2
  cases htv : vldM t with
  | false =>
    have FIN := hid (HZ.out w2 hb12)
    simp only [put, Nat.zero_add] at FIN
    have q := (HOUT.out w2 hb12).2
    have r0 : w2.cell? ⟨w.heap.size + 1, 0, none⟩ = some (.int .i64 0) := by rw [cell_of_block q]; rfl
    have r1 : w2.cell? ⟨w.heap.size + 1, 1, none⟩ = some (.slice none 0 0) := by rw [cell_of_block q]; rfl
    have rz := fun o => frozen_of_block (o := o) q
    have rl := lt_of_block q
    have HN := hid (HRES2.out htv)
    clear q hb1 hb2 hb12 HZ HOUT HCV HTV HAT HG HRES HRES2 HRES3 hcv htv z0 z1 z2 z3 z4 z5 z6 z7 z8
    go_wp2_with fail
    exact bodyPost_ret (v := .tuple #[.agg #[.int .i64 0, .slice none 0 0], .bool false]) (by simp [results, Tryd.results18, go_sem, r0, r1]) rfl (by rw [HN.out]; exact FIN.out)
  | true =>
  have HN := hid (HRES3.out hcv htv)
  obtain ⟨o, hch, hom, hov⟩ := chM_ok t 12 xs.reverse 0 (shp_vldM htv) (ctx_vld hcv)
  have HOM := hid (And.intro hom hov)
  have HCH := hid (fun (W : World) (pa : Option Addr) (fs : List Nat) (h1 : ScAt W xs.reverse (.pointer pa) fs) (h2 : Below (((w.alloc (Obj.cells #[.int .i64 e0, .string e1, .int .i64 e2, .int .i64 e3, .slice e5 e4 e6, .int .i64 e7, .slice e9 e8 e10, .int .i64 e11, .slice e13 e12 e14] 35)).alloc (Obj.cells #[.int .i64 0, .slice none 0 0] 32))).heap.size ((w.alloc (Obj.cells #[.int .i64 e0, .string e1, .int .i64 e2, .int .i64 e3, .slice e5 e4 e6, .int .i64 e7, .slice e9 e8 e10, .int .i64 e11, .slice e13 e12 e14] 35)).alloc (Obj.cells #[.int .i64 0, .slice none 0 0] 32)) W) => check_cons t xs.reverse pa fs _ fe W 0 h1 (HAT.out W h2) (kOk_of_shpM t 12 (shp_vldM htv)) (fun b _ => Gd.free W b) (ul_none _) trivial)
  rw [hch] at HCH
  have HB12 := hid hb12
  generalize tyM xs.reverse t = TO at *
  clear hom hov hch hb1 hb2 hcv htv HTV HCV HRES HRES2 HRES3 hb12 z0 z1 z2 z3 z4 z5 z6 z7 z8
  go_wp2_with fail
  go_loopw [6, 23] (fun p i wr => ∃ (j : Nat) (pa : Option Addr) (fs : List Nat), j ≤ xs.length ∧ i = .int .i64 j ∧ p = .pointer pa ∧ ScAt wr (xs.take j).reverse (.pointer pa) fs ∧ Below (((w.alloc (Obj.cells #[.int .i64 e0, .string e1, .int .i64 e2, .int .i64 e3, .slice e5 e4 e6, .int .i64 e7, .slice e9 e8 e10, .int .i64 e11, .slice e13 e12 e14] 35)).alloc (Obj.cells #[.int .i64 0, .slice none 0 0] 32))).heap.size ((w.alloc (Obj.cells #[.int .i64 e0, .string e1, .int .i64 e2, .int .i64 e3, .slice e5 e4 e6, .int .i64 e7, .slice e9 e8 e10, .int .i64 e11, .slice e13 e12 e14] 35)).alloc (Obj.cells #[.int .i64 0, .slice none 0 0] 32)) wr) (fun _ i _ => xs.length - (intOf i).toNat)
  case atStart => exact ⟨0, none, [], Nat.zero_le _, rfl, rfl, ⟨rfl, rfl⟩, HB12.out⟩
  case round =>
    obtain ⟨j, pa, fs, hj, rfl, rfl, hsc, hb⟩ := hrel
    by_cases hlk : j < xs.length
    · obtain ⟨b, o', nm, k1, n1, a1, c1, f, rfl, hblt, hnm, hnms, c0, c1', c2, hatb, -⟩ := HG.out j hlk
      have hbw := below_trans HB0.out hb
      have d0 := cell_keep c0 hbw
      have d1 := cell_keep c1' hbw
      have d2 := cell_keep c2 hbw
      have hal : Below wr.heap.size wr (wr.alloc (Obj.cells #[.string nm, .int .i64 k1, .slice a1 n1 c1] 76)) := (Below.refl _ _).alloc (Nat.le_refl _) _
      have HW := hid (with_any (xs.take j).reverse pa fs nm xs[j].ty k1 n1 a1 c1 f _ (hsc.below hal) hnms ((hatb.below hbw).below hal))
      have HBW := hid (below_trans hb hal)
      have HE := hid (show (⟨nm, xs[j].ty⟩ : Bd) :: (xs.take j).reverse = (xs.take (j + 1)).reverse by
        rw [List.take_succ_eq_append_getElem hlk, List.reverse_append, hnm]
        rfl)
      rw [HE.out] at HW
      have hj0 : (0 : Int) ≤ (j : Int) := by omega
      have hj1 : (j : Int) < (xs.length : Int) := by omega
      clear c0 c1' c2 hatb hbw hal hsc hb hnm hblt HE HCH
      go_wp2_with fail
      refine HW.out.mono ?_
      rintro e w5 ⟨b5, g5, rfl, hs5, -, hb5⟩
      have HF := hid (And.intro hs5 (below_trans HBW.out hb5))
      clear hs5 hb5 d0 d1 d2
      go_wp2_with fail
      exact ⟨⟨j + 1, _, g5, by omega, by go_num, rfl, HF.out.1, HF.out.2⟩, by simp [intOf]; omega⟩
    · obtain rfl : j = xs.length := by omega
      rw [List.take_of_length_le (Nat.le_refl _)] at hsc
      have HC := hid (HCH.out wr pa fs hsc hb)
      have HBW := hid hb
      obtain ⟨z0, z1, z2, z3, z4, z5, z6, z7, z8⟩ := cells9 (HOUT.out wr hb).1
      clear hsc hb HCH HG
      cases o with
      | none =>
        obtain rfl : TO = none := HOM.out.1.symm
        go_wp2_with fail
        refine HC.out.mono ?_
        rintro e w6 ⟨e', t', r0, r1, r2, r3, r4, r5, r6, r7, r8, r9, r10, r11, r12, r13, r14, kk, nn, aa, cc, g1, g2, rfl, -, -, -, -, hb6, -⟩
        have hb6' := below_trans HBW.out hb6.below
        have FIN0 := HZ.out w6 hb6'
        have q := (HOUT.out w6 hb6').2
        have s0 : w6.cell? ⟨w.heap.size + 1, 0, none⟩ = some (.int .i64 0) := by rw [cell_of_block q]; rfl
        have s1 : w6.cell? ⟨w.heap.size + 1, 1, none⟩ = some (.slice none 0 0) := by rw [cell_of_block q]; rfl
        have sz := fun o => frozen_of_block (o := o) q
        have sl := lt_of_block q
        have sl2 : w.heap.size < w6.heap.size := by omega
        have FIN := hid (show MadeTB w (.mk 0 []) false (.returned (.tuple #[.agg #[.int .i64 0, .slice none 0 0], .bool false])) (((put w6 (w.heap.size + 1) 0 [.int .i64 0, .slice none 0 0]).alloc (Obj.cells #[.int .i64 r0, .string r1, .int .i64 r2, .int .i64 r3, .slice r5 r4 r6, .int .i64 r7, .slice r9 r8 r10, .int .i64 r11, .slice r13 r12 r14] 35)).alloc (Obj.cells #[.int .i64 kk, .slice aa nn cc] 32)) from by
          obtain ⟨v, f, he, h1, h2, h3⟩ := FIN0
          have hx := (((Below.refl _ (put w6 (w.heap.size + 1) 0 [.int .i64 0, .slice none 0 0])).alloc (Nat.le_refl _) (Obj.cells #[.int .i64 r0, .string r1, .int .i64 r2, .int .i64 r3, .slice r5 r4 r6, .int .i64 r7, .slice r9 r8 r10, .int .i64 r11, .slice r13 r12 r14] 35)).alloc (by simp) (Obj.cells #[.int .i64 kk, .slice aa nn cc] 32))
          exact ⟨v, f, he, h1.below hx, h2.below hx, below_trans h3 hx⟩)
        simp only [put, Nat.zero_add] at FIN
        clear hb6 hb6' FIN0 q HZ HOUT HC HBW HAT HB12 HOM
        go_wp2_with fail
        exact bodyPost_ret (v := .tuple #[.agg #[.int .i64 0, .slice none 0 0], .bool false]) (by simp [results, Tryd.results18, go_sem, s0, s1, sl, sl2]) rfl (by rw [HN.out]; exact FIN.out)
      | some pp =>
        obtain ⟨e9', t9⟩ := pp
        obtain rfl : TO = some t9 := HOM.out.1.symm
        have HV := hid (HOM.out.2 t9 rfl)
        go_wp2_with fail
        refine HC.out.mono ?_
        rintro e w6 ⟨e', t', r0, r1, r2, r3, r4, r5, r6, r7, r8, r9, r10, r11, r12, r13, r14, kk, nn, aa, cc, g1, g2, rfl, -, hT, hp, -, hb6, -⟩
        have hpp := hp _ rfl
        simp only [Prod.mk.injEq] at hpp
        obtain ⟨-, rfl⟩ := hpp
        have hb6' := below_trans HBW.out hb6.below
        have hx := (((Below.refl _ w6).alloc (Nat.le_refl _) (Obj.cells #[.int .i64 r0, .string r1, .int .i64 r2, .int .i64 r3, .slice r5 r4 r6, .int .i64 r7, .slice r9 r8 r10, .int .i64 r11, .slice r13 r12 r14] 35)).alloc (by simp) (Obj.cells #[.int .i64 kk, .slice aa nn cc] 32))
        have HCP := hid (copyType_any t9 _ g2 _ (hT.below hx) (wf_of_vld HV.out))
        have HB6 := hid (below_trans hb6' hx)
        clear hb6 hb6' hx hT hp HC HBW
        go_wp2_with fail
        refine HCP.out.mono ?_
        rintro e w7 ⟨v7, f7, rfl, h7, hf7, hb7⟩
        obtain ⟨k7, n7, a7, c7, rfl⟩ := h7.agg
        have hb7' := below_trans HB6.out hb7
        have hs6 := HB6.out.size
        have q := (HOUT.out w7 hb7').2
        have s0 : w7.cell? ⟨w.heap.size + 1, 0, none⟩ = some (.int .i64 0) := by rw [cell_of_block q]; rfl
        have s1 : w7.cell? ⟨w.heap.size + 1, 1, none⟩ = some (.slice none 0 0) := by rw [cell_of_block q]; rfl
        have sz := fun o => frozen_of_block (o := o) q
        have sl := lt_of_block q
        have hge : ∀ b ∈ f7, w.heap.size + 1 < b := fun b hb => by
          have h1 := (hf7.2 b hb).1
          have h2 : (((w.alloc (Obj.cells #[.int .i64 e0, .string e1, .int .i64 e2, .int .i64 e3, .slice e5 e4 e6, .int .i64 e7, .slice e9 e8 e10, .int .i64 e11, .slice e13 e12 e14] 35)).alloc (Obj.cells #[.int .i64 0, .slice none 0 0] 32))).heap.size = w.heap.size + 1 + 1 := by simp
          omega
        have FIN := hid (show MadeTB w t9 true (.returned (.tuple #[.agg #[.int .i64 k7, .slice a7 n7 c7], .bool true])) (put w7 (w.heap.size + 1) 0 [.int .i64 k7, .slice a7 n7 c7]) from
          ⟨_, f7, rfl, h7.putne (fun b hb => by have := hge b hb; omega), (hf7.putne (fun b hb => by have := hge b hb; omega)).mono (by have h2 : (((w.alloc (Obj.cells #[.int .i64 e0, .string e1, .int .i64 e2, .int .i64 e3, .slice e5 e4 e6, .int .i64 e7, .slice e9 e8 e10, .int .i64 e11, .slice e13 e12 e14] 35)).alloc (Obj.cells #[.int .i64 0, .slice none 0 0] 32))).heap.size = w.heap.size + 1 + 1 := (by simp); omega), below_put (below_trans HB0.out hb7') (by omega)⟩)
        simp only [put, Nat.zero_add] at FIN
        clear h7 hf7 hb7 hb7' hs6 q hge HCP HB6 HZ HOUT HAT HB12 HOM
        go_wp2_with fail
        exact bodyPost_ret (v := .tuple #[.agg #[.int .i64 k7, .slice a7 n7 c7], .bool true]) (by simp [results, Tryd.results18, go_sem, s0, s1]) rfl (by rw [HN.out]; exact FIN.out)

set_option maxHeartbeats 1000000 in
theorem implTypeOf (t : Tm) (v : Value) (fe : List Nat) (w : World) (hF : Forms w) (hat : t.At w v fe) :
    Calls Tryd.prog 26 #[v] w (MadeTB w ((tyInO [] t).getD (.mk 0 [])) (tyInO [] t).isSome) := by
  obtain ⟨e0, e1, e2, e3, e4, e5, e6, e7, e8, e9, e10, e11, e12, e13, e14, rfl⟩ := hat.agg
  have hb0 : Below w.heap.size w ((w.alloc (Obj.cells #[.int .i64 e0, .string e1, .int .i64 e2, .int .i64 e3, .slice e5 e4 e6, .int .i64 e7, .slice e9 e8 e10, .int .i64 e11, .slice e13 e12 e14] 35)).alloc (Obj.cells #[.int .i64 0, .slice none 0 0] 32)) := ((Below.refl _ _).alloc (Nat.le_refl _) _).alloc (by simp) _
  obtain ⟨hB, hq⟩ := two_out (Below.refl (((w.alloc (Obj.cells #[.int .i64 e0, .string e1, .int .i64 e2, .int .i64 e3, .slice e5 e4 e6, .int .i64 e7, .slice e9 e8 e10, .int .i64 e11, .slice e13 e12 e14] 35)).alloc (Obj.cells #[.int .i64 0, .slice none 0 0] 32))).heap.size ((w.alloc (Obj.cells #[.int .i64 e0, .string e1, .int .i64 e2, .int .i64 e3, .slice e5 e4 e6, .int .i64 e7, .slice e9 e8 e10, .int .i64 e11, .slice e13 e12 e14] 35)).alloc (Obj.cells #[.int .i64 0, .slice none 0 0] 32)))
  obtain ⟨z0, z1, z2, z3, z4, z5, z6, z7, z8⟩ := cells9 hB
  have HT := hid (implTypeIn [] (.slice none 0 0) [] t _ fe ((w.alloc (Obj.cells #[.int .i64 e0, .string e1, .int .i64 e2, .int .i64 e3, .slice e5 e4 e6, .int .i64 e7, .slice e9 e8 e10, .int .i64 e11, .slice e13 e12 e14] 35)).alloc (Obj.cells #[.int .i64 0, .slice none 0 0] 32)) (hF.below hb0) (.inl ⟨rfl, rfl, _, _, rfl⟩) (hat.below hb0))
  have HB0 := hid hb0
  generalize (tyInO [] t).getD (.mk 0 []) = T0 at *
  generalize (tyInO [] t).isSome = bb at *
  clear hF hat hb0 hB hq
  go_enter Tryd.func26, Tryd.ntmps26
  go_wp2_with fail
  refine HT.out.mono ?_
  rintro e w7 ⟨v7, f7, rfl, h7, hf7, hb7⟩
  obtain ⟨k7, n7, a7, c7, rfl⟩ := h7.agg
  have q := (two_out hb7).2
  have s0 : w7.cell? ⟨w.heap.size + 1, 0, none⟩ = some (.int .i64 0) := by rw [cell_of_block q]; rfl
  have s1 : w7.cell? ⟨w.heap.size + 1, 1, none⟩ = some (.slice none 0 0) := by rw [cell_of_block q]; rfl
  have sz := fun o => frozen_of_block (o := o) q
  have sl := lt_of_block q
  have hge : ∀ b ∈ f7, w.heap.size + 1 < b := fun b hb => by
    have h1 := (hf7.2 b hb).1
    have h2 : (((w.alloc (Obj.cells #[.int .i64 e0, .string e1, .int .i64 e2, .int .i64 e3, .slice e5 e4 e6, .int .i64 e7, .slice e9 e8 e10, .int .i64 e11, .slice e13 e12 e14] 35)).alloc (Obj.cells #[.int .i64 0, .slice none 0 0] 32))).heap.size = w.heap.size + 1 + 1 := by simp
    omega
  have FIN := hid (show MadeTB w T0 bb (.returned (.tuple #[.agg #[.int .i64 k7, .slice a7 n7 c7], .bool bb])) (put w7 (w.heap.size + 1) 0 [.int .i64 k7, .slice a7 n7 c7]) from
    ⟨_, f7, rfl, h7.putne (fun b hb => by have := hge b hb; omega), (hf7.putne (fun b hb => by have := hge b hb; omega)).mono (by have h2 : (((w.alloc (Obj.cells #[.int .i64 e0, .string e1, .int .i64 e2, .int .i64 e3, .slice e5 e4 e6, .int .i64 e7, .slice e9 e8 e10, .int .i64 e11, .slice e13 e12 e14] 35)).alloc (Obj.cells #[.int .i64 0, .slice none 0 0] 32))).heap.size = w.heap.size + 1 + 1 := (by simp); omega), below_put (below_trans HB0.out hb7) (by omega)⟩)
  simp only [put, Nat.zero_add] at FIN
  clear h7 hf7 hb7 q hge HT HB0
  go_wp2_with fail
  exact bodyPost_ret (v := .tuple #[.agg #[.int .i64 k7, .slice a7 n7 c7], .bool bb]) (by simp [results, Tryd.results26, go_sem, s0, s1]) rfl FIN.out
end Go.Proofs.YtffmpjcjmffdeaaDoor

/- The specification's l4Type: functions. -/
import Derived.Deep.Cut
import Derived.Test.YtffmpjcjmffdeaaDoorRTf3
import Derived.Test.YtffmpjcjmffdeaaDoorRG34
namespace Go.Proofs.YtffmpjcjmffdeaaDoor
open Go.RowKit

set_option maxRecDepth 100000 in
set_option maxHeartbeats 4000000 in
theorem tx_5 {d : Nat} (ih : TyD d) (nm : ByteArray) (num : Int) (ty fr : Ty) (lb : Int) (ts : List Tm) (xs : List Bd) (s v : Value) (fs fe : List Nat) (w : World) (hs : BsAt w xs s fs) (hat : Tm.At w (.mk 5 nm num ty fr lb ts) v fe)
    (hl1 : ts.length = 1) (hk : ∀ t ∈ ts, shpC d t = true) (hty : vld ty = true) (hx : ∀ x ∈ xs, vld x.ty = true) (hn : xs.length + d + 1 ≤ 1000000) :
    Calls Tryd.prog 70 #[s, v] w (MadeTO w (tyX xs.reverse (.mk 5 nm num ty fr lb ts))) := by
  obtain ⟨k1, n1, a1, c1, k2, n2, a2, c2, a3, c3, f1, f2, f3, rfl, hnm, ht1, ht2, rfl, hs3⟩ := hat.parts
  have HB := hid (show Below w.heap.size w ((w.alloc (Obj.cells #[.int .i64 5, .string nm, .int .i64 num, .int .i64 k1, .slice a1 n1 c1, .int .i64 k2, .slice a2 n2 c2, .int .i64 lb, .slice a3 ts.length c3] 35)).alloc (Obj.cells #[.int .i64 0, .slice none 0 0] 32)) from ((Below.refl _ _).alloc (Nat.le_refl _) _).alloc (by simp) _)
  have HSZ := hid (show ((w.alloc (Obj.cells #[.int .i64 5, .string nm, .int .i64 num, .int .i64 k1, .slice a1 n1 c1, .int .i64 k2, .slice a2 n2 c2, .int .i64 lb, .slice a3 ts.length c3] 35)).alloc (Obj.cells #[.int .i64 0, .slice none 0 0] 32)).heap.size = w.heap.size + 1 + 1 by simp)
  have HQ := hid (two_out (Below.refl _ ((w.alloc (Obj.cells #[.int .i64 5, .string nm, .int .i64 num, .int .i64 k1, .slice a1 n1 c1, .int .i64 k2, .slice a2 n2 c2, .int .i64 lb, .slice a3 ts.length c3] 35)).alloc (Obj.cells #[.int .i64 0, .slice none 0 0] 32)))).2
  obtain ⟨z0, z1, z2, z3, z4, z5, z6, z7, z8⟩ := cells9 (two_out (Below.refl _ ((w.alloc (Obj.cells #[.int .i64 5, .string nm, .int .i64 num, .int .i64 k1, .slice a1 n1 c1, .int .i64 k2, .slice a2 n2 c2, .int .i64 lb, .slice a3 ts.length c3] 35)).alloc (Obj.cells #[.int .i64 0, .slice none 0 0] 32)))).1
  obtain ⟨a, cap, hss, hc, hm, hget⟩ := hs3.open
  cases hss
  obtain ⟨tk, rfl⟩ := List.length_eq_one_iff.1 hl1
  obtain ⟨bk, ok, kk, nk, mk, p1, m1, b1, d1, p2, m2, b2, d2, lk, m3, b3, d3, g1, hab, hblt, e0, e1, e2, e3, e4, e5, e6, e7, e8, hkat, -⟩ := hget 0 (by simp)
  subst hab
  simp only [Nat.zero_mul, Nat.add_zero, List.getElem_cons_zero, List.length_cons, List.length_nil, Nat.zero_add] at *
  replace e0 := cell_keep e0 HB.out
  replace e1 := cell_keep e1 HB.out
  replace e2 := cell_keep e2 HB.out
  replace e3 := cell_keep e3 HB.out
  replace e4 := cell_keep e4 HB.out
  replace e5 := cell_keep e5 HB.out
  replace e6 := cell_keep e6 HB.out
  replace e7 := cell_keep e7 HB.out
  replace e8 := cell_keep e8 HB.out
  have HKT := hid (fun (W : World) (h : Below ((w.alloc (Obj.cells #[.int .i64 5, .string nm, .int .i64 num, .int .i64 k1, .slice a1 n1 c1, .int .i64 k2, .slice a2 n2 c2, .int .i64 lb, .slice (some ⟨bk, ok, none⟩) 1 c3] 35)).alloc (Obj.cells #[.int .i64 0, .slice none 0 0] 32)).heap.size ((w.alloc (Obj.cells #[.int .i64 5, .string nm, .int .i64 num, .int .i64 k1, .slice a1 n1 c1, .int .i64 k2, .slice a2 n2 c2, .int .i64 lb, .slice (some ⟨bk, ok, none⟩) 1 c3] 35)).alloc (Obj.cells #[.int .i64 0, .slice none 0 0] 32)) W) => hkat.below (below_trans HB.out h))
  have HTT := hid (fun (W : World) (h : Below ((w.alloc (Obj.cells #[.int .i64 5, .string nm, .int .i64 num, .int .i64 k1, .slice a1 n1 c1, .int .i64 k2, .slice a2 n2 c2, .int .i64 lb, .slice (some ⟨bk, ok, none⟩) 1 c3] 35)).alloc (Obj.cells #[.int .i64 0, .slice none 0 0] 32)).heap.size ((w.alloc (Obj.cells #[.int .i64 5, .string nm, .int .i64 num, .int .i64 k1, .slice a1 n1 c1, .int .i64 k2, .slice a2 n2 c2, .int .i64 lb, .slice (some ⟨bk, ok, none⟩) 1 c3] 35)).alloc (Obj.cells #[.int .i64 0, .slice none 0 0] 32)) W) => ht1.below (below_trans HB.out h))
  have HMO := hid (fun (W : World) (h : Below ((w.alloc (Obj.cells #[.int .i64 5, .string nm, .int .i64 num, .int .i64 k1, .slice a1 n1 c1, .int .i64 k2, .slice a2 n2 c2, .int .i64 lb, .slice (some ⟨bk, ok, none⟩) 1 c3] 35)).alloc (Obj.cells #[.int .i64 0, .slice none 0 0] 32)).heap.size ((w.alloc (Obj.cells #[.int .i64 5, .string nm, .int .i64 num, .int .i64 k1, .slice a1 n1 c1, .int .i64 k2, .slice a2 n2 c2, .int .i64 lb, .slice (some ⟨bk, ok, none⟩) 1 c3] 35)).alloc (Obj.cells #[.int .i64 0, .slice none 0 0] 32)) W) => l3More_any xs s fs nm ty k1 n1 a1 c1 f1 W (hs.below (below_trans HB.out h)) hnm (ht1.below (below_trans HB.out h)) (by omega))
  have HRE := hid (fun (W : World) (s' : Value) (fp' : List Nat) (h : Below ((w.alloc (Obj.cells #[.int .i64 5, .string nm, .int .i64 num, .int .i64 k1, .slice a1 n1 c1, .int .i64 k2, .slice a2 n2 c2, .int .i64 lb, .slice (some ⟨bk, ok, none⟩) 1 c3] 35)).alloc (Obj.cells #[.int .i64 0, .slice none 0 0] 32)).heap.size ((w.alloc (Obj.cells #[.int .i64 5, .string nm, .int .i64 num, .int .i64 k1, .slice a1 n1 c1, .int .i64 k2, .slice a2 n2 c2, .int .i64 lb, .slice (some ⟨bk, ok, none⟩) 1 c3] 35)).alloc (Obj.cells #[.int .i64 0, .slice none 0 0] 32)) W) (hb : BsAt W (xs ++ [⟨nm, ty⟩]) s' fp') => ih tk (xs ++ [⟨nm, ty⟩]) s' _ fp' g1 W (hk tk (by simp)) hb (hkat.below (below_trans HB.out h)) (fun x hm => by
    rcases List.mem_append.1 hm with h | h
    · exact hx x h
    · simp only [List.mem_singleton] at h; subst h; exact hty) (by simp; omega))
  have HV := hid (fun u (h : tyX (xs ++ [Bd.mk nm ty]).reverse tk = some u) => tyX_vld h (hk tk (by simp)) (fun x hm => by
    rcases List.mem_append.1 (List.mem_reverse.1 hm) with h | h
    · exact hx x h
    · simp only [List.mem_singleton] at h; subst h; exact hty))
  have HR1 := hid (show tyX (xs ++ [Bd.mk nm ty]).reverse tk = none → tyX xs.reverse (.mk 5 nm num ty fr lb [tk]) = none from fun h => by
    simp only [List.reverse_append, List.reverse_cons, List.reverse_nil, List.nil_append, List.cons_append] at h
    simp only [tyX, tyXL, inS, if_true, h]; rfl)
  have HR2 := hid (show ∀ u, tyX (xs ++ [Bd.mk nm ty]).reverse tk = some u → tyX xs.reverse (.mk 5 nm num ty fr lb [tk]) = twoV 4 ty u from fun u h => by
    simp only [List.reverse_append, List.reverse_cons, List.reverse_nil, List.nil_append, List.cons_append] at h
    simp only [tyX, tyXL, inS, if_true, h]; rfl)
  have HQW := hid (fun (W : World) (h : Below ((w.alloc (Obj.cells #[.int .i64 5, .string nm, .int .i64 num, .int .i64 k1, .slice a1 n1 c1, .int .i64 k2, .slice a2 n2 c2, .int .i64 lb, .slice (some ⟨bk, ok, none⟩) 1 c3] 35)).alloc (Obj.cells #[.int .i64 0, .slice none 0 0] 32)).heap.size ((w.alloc (Obj.cells #[.int .i64 5, .string nm, .int .i64 num, .int .i64 k1, .slice a1 n1 c1, .int .i64 k2, .slice a2 n2 c2, .int .i64 lb, .slice (some ⟨bk, ok, none⟩) 1 c3] 35)).alloc (Obj.cells #[.int .i64 0, .slice none 0 0] 32)) W) => two_out h)
  have HNT := hid (shp_cnt8 hty (by omega))
  obtain ⟨sa, scap, rfl, -⟩ := hs.open
  generalize tyX (xs ++ [Bd.mk nm ty]).reverse tk = oo at *
  generalize tyX xs.reverse (.mk 5 nm num ty fr lb [tk]) = oR at *
  clear hs hat ht1 ht2 hs3 hkat hget hk hx hty ih hc hm
  go_enter Tryd.func70, Tryd.ntmps70
  go_wp2_with fail
  generalize ((w.alloc (Obj.cells #[.int .i64 5, .string nm, .int .i64 num, .int .i64 k1, .slice a1 n1 c1, .int .i64 k2, .slice a2 n2 c2, .int .i64 lb, .slice (some ⟨bk, ok, none⟩) 1 c3] 35)).alloc (Obj.cells #[.int .i64 0, .slice none 0 0] 32)) = Z at *
  go_cut [6, 7] (fun s6 s7 wx => KdX Z oo s6 s7 wx)
  case first =>
    go_region_held3 (fun w' => Below Z.heap.size Z w' ∧ w'.cell? ⟨w.heap.size, 1, none⟩ = some (.string nm) ∧ w'.cell? ⟨w.heap.size, 3, none⟩ = some (.int .i64 k1) ∧ w'.cell? ⟨w.heap.size, 4, none⟩ = some (.slice a1 n1 c1) ∧ w'.cell? ⟨w.heap.size, 8, none⟩ = some (.slice (some ⟨bk, ok, none⟩) 1 c3) ∧ w'.cell? ⟨bk, ok, none⟩ = some (.int .i64 kk) ∧ w'.cell? ⟨bk, ok + 1, none⟩ = some (.string nk) ∧ w'.cell? ⟨bk, ok + 2, none⟩ = some (.int .i64 mk) ∧ w'.cell? ⟨bk, ok + 3, none⟩ = some (.int .i64 p1) ∧ w'.cell? ⟨bk, ok + 4, none⟩ = some (.slice b1 m1 d1) ∧ w'.cell? ⟨bk, ok + 5, none⟩ = some (.int .i64 p2) ∧ w'.cell? ⟨bk, ok + 6, none⟩ = some (.slice b2 m2 d2) ∧ w'.cell? ⟨bk, ok + 7, none⟩ = some (.int .i64 lk) ∧ w'.cell? ⟨bk, ok + 8, none⟩ = some (.slice b3 m3 d3))
      ((refine (fun hB => ⟨hB, cell_keep z1 hB, cell_keep z3 hB, cell_keep z4 hB, cell_keep z8 hB, cell_keep e0 hB, cell_keep e1 hB, cell_keep e2 hB, cell_keep e3 hB, cell_keep e4 hB, cell_keep e5 hB, cell_keep e6 hB, cell_keep e7 hB, cell_keep e8 hB⟩ : Below Z.heap.size Z _ → _) ?_; (first | with_reducible exact below_drew Z | with_reducible exact hkB | with_reducible exact hkA | (go_split_ands; first | with_reducible exact Below.alloc (by with_reducible assumption) (Below.size (by with_reducible assumption)) _ | exact (hkB.setCell (p := ⟨Z.heap.size, 0, none⟩) (Nat.le_refl _) _).setCell (p := ⟨Z.heap.size, 1, none⟩) (Nat.le_refl _) _ | exact (hkB.setCell (p := ⟨y1.heap.size, 0, none⟩) hkA.size _).setCell (p := ⟨y1.heap.size, 1, none⟩) hkA.size _ | exact Below.alloc (by with_reducible assumption) (Below.size (by with_reducible assumption)) _))))
      (first
        | (go_at_call 113; go_split_ands; refine (HMO.out _ (by assumption)).mono ?_; rintro e y1 ⟨s', fp', rfl, hbs, hy1⟩; obtain ⟨sa', sc', rfl, -⟩ := hbs.open; simp only [List.length_append, List.length_cons, List.length_nil, Nat.zero_add] at hbs; have hkA : Below Z.heap.size Z y1 := below_trans (by assumption) hy1; (first | (have Q3 : y1.heap[Z.heap.size]? = some (Obj.cells #[.int .i64 0, .slice none 0 0] 32) := (hy1.block Z.heap.size (by first | (show Z.heap.size < (Z.alloc _).heap.size; simp) | simp)).trans (alloc_new Z _)) | skip))
        | (go_at_call 70; go_split_ands; refine (HRE.out _ _ fp' (by assumption) (by first | exact hbs | exact hbs.below ((Below.refl _ _).alloc (Nat.le_refl _) _))).mono ?_; rintro e y2 ⟨T, hT, vm, f, rfl, hatm, hfm, hy2⟩; obtain ⟨k, n, a, c, rfl⟩ := hatm.agg; have hkB : Below Z.heap.size Z y2 := below_trans (by assumption) hy2; (first
            | (have Q4 : y2.heap[Z.heap.size]? = some (Obj.cells #[.int .i64 0, .slice none 0 0] 32) := (hy2.block Z.heap.size (lt_of_block Q3)).trans Q3; have f0 := (fun o => frozen_of_block (o := o) Q4); have d0 : y2.cell? ⟨Z.heap.size, 0, none⟩ = some (.int .i64 0) := (by rw [cell_of_block Q4]; rfl); have d1' : y2.cell? ⟨Z.heap.size, 1, none⟩ = some (.slice none 0 0) := (by rw [cell_of_block Q4]; rfl); have hl3 := lt_of_block Q4)
            | (have Q4 : y2.heap[y1.heap.size]? = some (Obj.cells #[.int .i64 0, .slice none 0 0] 32) := (hy2.block y1.heap.size (by simp)).trans (alloc_new y1 _); have f0 := (fun o => frozen_of_block (o := o) Q4); have d0 : y2.cell? ⟨y1.heap.size, 0, none⟩ = some (.int .i64 0) := (by rw [cell_of_block Q4]; rfl); have d1' : y2.cell? ⟨y1.heap.size, 1, none⟩ = some (.slice none 0 0) := (by rw [cell_of_block Q4]; rfl); have hl3 := lt_of_block Q4)
            | skip)))
    all_goals
      repeat (rename (World.cell? _ _ = some _) => hq; clear hq)
      go_wp2_with fail
      go_meet
      first
        | with_reducible exact kdx_alloc hT rfl hatm hfm hkA hy2
        | with_reducible exact kdx_store Q3 (Nat.le_refl _) hT rfl hatm hfm hkA hy2
        | exact kdx_store (alloc_new y1 _) hkA.size hT rfl hatm hfm (hkA.alloc hkA.size _) hy2
  case rest =>
  obtain ⟨b6, k, n, a, c, f, T, rfl, rfl, hT, hb6, hatm, hfm, hge, hbc⟩ := hcut
  have m0 : wc.cell? ⟨b6, 0, none⟩ = some (.int .i64 k) := by rw [cell_of_block hb6]; rfl
  have m1 : wc.cell? ⟨b6, 1, none⟩ = some (.slice a n c) := by rw [cell_of_block hb6]; rfl
  have ml := lt_of_block hb6
  obtain ⟨qb, q⟩ := HQW.out wc hbc
  have r0 : wc.cell? ⟨w.heap.size + 1, 0, none⟩ = some (.int .i64 0) := by rw [cell_of_block q]; rfl
  have r1 : wc.cell? ⟨w.heap.size + 1, 1, none⟩ = some (.slice none 0 0) := by rw [cell_of_block q]; rfl
  have rz := fun o => frozen_of_block (o := o) q
  have rl := lt_of_block q
  replace z3 := cell_keep z3 hbc
  replace z4 := cell_keep z4 hbc
  clear z0 z1 z2 z5 z6 z7 z8 e0 e1 e2 e3 e4 e5 e6 e7 e8
  have hbw := below_trans HB.out hbc
  cases hbo : oo.isSome with
  | false =>
    have hoo : oo = none := by cases oo <;> simp_all
    have HN := hid (HR1.out hoo)
    have FIN := hid (MadeTO.stored (w := w) (P := w.heap.size + 1) (B := w.heap.size + 1 + 1) (o := oR) (T := .mk 0 []) (by rw [HN.out]; intro u h; cases h) (b := false) (by rw [HN.out]; rfl) (no_ty9 wc) (Fresh.nil _ wc) (Nat.lt_succ_self _) (Nat.le_succ _) hbw)
    clear q qb hbw hbc HQW HB HSZ HQ HKT HTT HMO HRE HV HR1 HR2 hatm hfm hb6 hT hge hoo HN hbo
    go_wp2_with fail
    exact bodyPost_ret (v := .tuple #[.agg #[.int .i64 0, .slice none 0 0], .bool false]) (by simp [results, Tryd.results70, go_sem, r0, r1]) rfl FIN.out
  | true =>
    have hoo : oo = some T := by
      cases oo with
      | none => cases hbo
      | some u => rw [hT u rfl]
    have HT2 := hid (l3Two_any 4 ty T _ _ _ _ wc (HTT.out wc hbc) hatm HNT.out (shp_cnt8 (HV.out T hoo) (by omega)))
    have HO := hid (HR2.out T hoo)
    have HO1 := hid (show ∀ u, oR = some u → Ty.mk 4 [ty, T] = u from fun u h => by
      rw [HO.out] at h
      unfold twoV at h
      by_cases hv : vld (.mk 4 [ty, T]) = true
      · rw [if_pos hv] at h; exact Option.some.inj h
      · rw [if_neg hv] at h; cases h)
    have HO2 := hid (show oR.isSome = vld (.mk 4 [ty, T]) from by rw [HO.out]; unfold twoV; cases vld (.mk 4 [ty, T]) <;> rfl)
    have HQ2 := hid (fun (W : World) (h : Below wc.heap.size wc W) => (h.block _ rl).trans q)
    have HBW := hid hbw
    have HPL := hid (show w.heap.size + 1 < wc.heap.size from rl)
    generalize vld (.mk 4 [ty, T]) = bb at *
    clear q qb hbw hbc HQW HB HSZ HQ HKT HTT HMO HRE HV HR1 HR2 hatm hfm hb6 hT hge hoo hbo r0 r1 rz
    go_wp2_with fail
    refine HT2.out.mono ?_
    rintro e w2 ⟨vm, g2, rfl, hat2, hf2, hb2⟩
    obtain ⟨k5, n5, a5, c5, rfl⟩ := hat2.agg
    have q := HQ2.out w2 hb2
    have r0 : w2.cell? ⟨w.heap.size + 1, 0, none⟩ = some (.int .i64 0) := by rw [cell_of_block q]; rfl
    have r1 : w2.cell? ⟨w.heap.size + 1, 1, none⟩ = some (.slice none 0 0) := by rw [cell_of_block q]; rfl
    have rz := fun o => frozen_of_block (o := o) q
    have rl := lt_of_block q
    have FIN := hid (MadeTO.stored (w := w) (P := w.heap.size + 1) (B := wc.heap.size) HO1.out HO2.out hat2 hf2 HPL.out (Nat.le_succ _) (below_trans HBW.out hb2))
    clear q hat2 hf2 hb2 HT2 HQ2 z3 z4 m0 m1
    go_wp2_with fail
    exact bodyPost_ret (v := .tuple #[.agg #[.int .i64 k5, .slice a5 n5 c5], .bool bb]) (by simp [results, Tryd.results70, go_sem, r0, r1]) rfl FIN.out
end Go.Proofs.YtffmpjcjmffdeaaDoor

/- The specification's l4Type: the other nodes, and all of it. -/
import Derived.Test.YtffmpjcjmffdeaaDoorRTf4
import Derived.Test.YtffmpjcjmffdeaaDoorRPkA
import Derived.Test.YtffmpjcjmffdeaaDoorRG34
namespace Go.Proofs.YtffmpjcjmffdeaaDoor
open Go.RowKit

set_option maxRecDepth 100000 in
set_option maxHeartbeats 4000000 in
theorem tx_node {d : Nat} (ih : TyD d) (K : Int) (hK : 6 ≤ K) (hK2 : K ≤ 14) (hK13 : K ≠ 13) (nm : ByteArray) (num : Int) (ty fr : Ty) (lb : Int) (ts : List Tm) (xs : List Bd) (s v : Value) (fs fe : List Nat) (w : World) (hs : BsAt w xs s fs) (hat : Tm.At w (.mk K nm num ty fr lb ts) v fe)
    (hl1 : kidsM K = (ts.length : Int)) (hl3 : ts.length ≤ 3) (hk : ∀ t ∈ ts, shpC d t = true) (hty : K = 14 → vld ty = true ∧ vld fr = true) (hx : ∀ x ∈ xs, vld x.ty = true) (hn : xs.length + d + 1 ≤ 1000000) :
    Calls Tryd.prog 70 #[s, v] w (MadeTO w (tyX xs.reverse (.mk K nm num ty fr lb ts))) := by
  have HATW := hid hat
  obtain ⟨k1, n1, a1, c1, k2, n2, a2, c2, a3, c3, f1, f2, f3, rfl, hnm, ht1, ht2, rfl, hs3⟩ := hat.parts
  have HB := hid (show Below w.heap.size w ((w.alloc (Obj.cells #[.int .i64 K, .string nm, .int .i64 num, .int .i64 k1, .slice a1 n1 c1, .int .i64 k2, .slice a2 n2 c2, .int .i64 lb, .slice a3 ts.length c3] 35)).alloc (Obj.cells #[.int .i64 0, .slice none 0 0] 32)) from ((Below.refl _ _).alloc (Nat.le_refl _) _).alloc (by simp) _)
  have HSZ := hid (show ((w.alloc (Obj.cells #[.int .i64 K, .string nm, .int .i64 num, .int .i64 k1, .slice a1 n1 c1, .int .i64 k2, .slice a2 n2 c2, .int .i64 lb, .slice a3 ts.length c3] 35)).alloc (Obj.cells #[.int .i64 0, .slice none 0 0] 32)).heap.size = w.heap.size + 1 + 1 by simp)
  have HQW := hid (fun (W : World) (h : Below ((w.alloc (Obj.cells #[.int .i64 K, .string nm, .int .i64 num, .int .i64 k1, .slice a1 n1 c1, .int .i64 k2, .slice a2 n2 c2, .int .i64 lb, .slice a3 ts.length c3] 35)).alloc (Obj.cells #[.int .i64 0, .slice none 0 0] 32)).heap.size ((w.alloc (Obj.cells #[.int .i64 K, .string nm, .int .i64 num, .int .i64 k1, .slice a1 n1 c1, .int .i64 k2, .slice a2 n2 c2, .int .i64 lb, .slice a3 ts.length c3] 35)).alloc (Obj.cells #[.int .i64 0, .slice none 0 0] 32)) W) => two_out h)
  obtain ⟨a, cap, hss, hc, hm, hget⟩ := hs3.open
  cases hss
  obtain ⟨z0, z1, z2, z3, z4, z5, z6, z7, z8⟩ := cells9 (two_out (Below.refl _ ((w.alloc (Obj.cells #[.int .i64 K, .string nm, .int .i64 num, .int .i64 k1, .slice a1 n1 c1, .int .i64 k2, .slice a2 n2 c2, .int .i64 lb, .slice a3 ts.length c3] 35)).alloc (Obj.cells #[.int .i64 0, .slice none 0 0] 32)))).1
  have HG := hid hget
  have HRE := hid (fun (j : Nat) (hj : j < ts.length) (vk : Value) (g : List Nat) (W : World) (h : Below ((w.alloc (Obj.cells #[.int .i64 K, .string nm, .int .i64 num, .int .i64 k1, .slice a1 n1 c1, .int .i64 k2, .slice a2 n2 c2, .int .i64 lb, .slice a3 ts.length c3] 35)).alloc (Obj.cells #[.int .i64 0, .slice none 0 0] 32)).heap.size ((w.alloc (Obj.cells #[.int .i64 K, .string nm, .int .i64 num, .int .i64 k1, .slice a1 n1 c1, .int .i64 k2, .slice a2 n2 c2, .int .i64 lb, .slice a3 ts.length c3] 35)).alloc (Obj.cells #[.int .i64 0, .slice none 0 0] 32)) W) (ha : Tm.At w ts[j] vk g) => ih ts[j] xs s vk fs g W (hk _ (List.getElem_mem hj)) (hs.below (below_trans HB.out h)) (ha.below (below_trans HB.out h)) hx (by omega))
  have HV := hid (fun (j : Nat) (hj : j < ts.length) u (h : tyX xs.reverse ts[j] = some u) => tyX_vld h (hk _ (List.getElem_mem hj)) (fun x hm => hx x (List.mem_reverse.1 hm)))
  have hin : inS xs.reverse K nm ty = xs.reverse := by unfold inS; rw [if_neg (by omega)]
  have HNO := hid (show ∀ us : List Ty, nodE xs.reverse K nm ty fr us = resE K ty fr us from fun us => by
    unfold nodE
    rw [if_neg (by omega), if_neg (by omega), if_neg (by omega), if_neg (by omega)])
  have HR1 := hid (show tyXL xs.reverse ts = none → tyX xs.reverse (.mk K nm num ty fr lb ts) = none from fun h => by
    simp only [tyX, hin, h]; rfl)
  have HR2 := hid (show ∀ us, tyXL xs.reverse ts = some us → tyX xs.reverse (.mk K nm num ty fr lb ts) = resE K ty fr us from fun us h => by
    simp only [tyX, hin, h, Option.bind_some, HNO.out])
  have HRES := hid (fun (us : List Ty) (sv : Value) (fu : List Nat) (W : World) (h : Below ((w.alloc (Obj.cells #[.int .i64 K, .string nm, .int .i64 num, .int .i64 k1, .slice a1 n1 c1, .int .i64 k2, .slice a2 n2 c2, .int .i64 lb, .slice a3 ts.length c3] 35)).alloc (Obj.cells #[.int .i64 0, .slice none 0 0] 32)).heap.size ((w.alloc (Obj.cells #[.int .i64 K, .string nm, .int .i64 num, .int .i64 k1, .slice a1 n1 c1, .int .i64 k2, .slice a2 n2 c2, .int .i64 lb, .slice a3 ts.length c3] 35)).alloc (Obj.cells #[.int .i64 0, .slice none 0 0] 32)) W) (hu : SlAt W us sv fu) (hl : us.length = ts.length) (hv : ∀ u ∈ us, vld u = true) => ex_any hK hK2 hK13 nm num ty fr lb ts _ _ us sv fu W (HATW.out.below (below_trans HB.out h)) hu (by rw [hl]; exact hl1) hv hty)
  have HS := hid hs
  obtain ⟨sa, scap, rfl, -⟩ := hs.open
  obtain ⟨i0, hi0, hz0, hz1, hz2⟩ := info_parts (P := Tryd.prog) (e := 32) Tryd.infoElem
  generalize hoR : tyX xs.reverse (.mk K nm num ty fr lb ts) = oR at *
  clear hat ht1 ht2 hs3 hget hk hx hty ih hc hm hin HNO HATW hs hoR
  have hK1 : (K == 1) = false := by simp; omega
  have hK3 : (K == 2) = false := by simp; omega
  have hK4 : (K == 3) = false := by simp; omega
  have hK5 : (K == 4) = false := by simp; omega
  have hK6 : (K == 5) = false := by simp; omega
  go_enter Tryd.func70, Tryd.ntmps70
  go_wp2_with fail
  go_loopw [8, 9] (fun sl i wr => ∃ (j : Nat) (f : List Nat) (us : List Ty), j ≤ ts.length ∧ i = .int .i64 j ∧ us.length = j ∧ GrowT (w.heap.size + 1 + 1) us sl f wr ∧ tyXL xs.reverse (ts.take j) = some us ∧ (∀ u ∈ us, vld u = true) ∧ Below ((w.alloc (Obj.cells #[.int .i64 K, .string nm, .int .i64 num, .int .i64 k1, .slice a1 n1 c1, .int .i64 k2, .slice a2 n2 c2, .int .i64 lb, .slice a3 ts.length c3] 35)).alloc (Obj.cells #[.int .i64 0, .slice none 0 0] 32)).heap.size ((w.alloc (Obj.cells #[.int .i64 K, .string nm, .int .i64 num, .int .i64 k1, .slice a1 n1 c1, .int .i64 k2, .slice a2 n2 c2, .int .i64 lb, .slice a3 ts.length c3] 35)).alloc (Obj.cells #[.int .i64 0, .slice none 0 0] 32)) wr) (fun _ i _ => ts.length - (intOf i).toNat)
  case atStart => exact ⟨0, [], [], Nat.zero_le _, rfl, rfl, by have h := GrowT.empty9 (W := ((w.alloc (Obj.cells #[.int .i64 K, .string nm, .int .i64 num, .int .i64 k1, .slice a1 n1 c1, .int .i64 k2, .slice a2 n2 c2, .int .i64 lb, .slice a3 ts.length c3] 35)).alloc (Obj.cells #[.int .i64 0, .slice none 0 0] 32))) (B := w.heap.size + 1 + 1) (Nat.le_of_eq HSZ.out.symm); rw [HSZ.out] at h; exact h, rfl, by simp, (Below.refl _ _).alloc (Nat.le_refl _) _⟩
  case round =>
    obtain ⟨j, f, us, hj, rfl, hul, hG, htl, huv, hb⟩ := hrel
    subst hul
    have HUV := hid huv
    have HTL := hid htl
    clear huv htl
    obtain ⟨qb, q⟩ := HQW.out wr hb
    obtain ⟨x0, x1, x2, x3, x4, x5, x6, x7, x8⟩ := cells9 qb
    have r0 : wr.cell? ⟨w.heap.size + 1, 0, none⟩ = some (.int .i64 0) := by rw [cell_of_block q]; rfl
    have r1 : wr.cell? ⟨w.heap.size + 1, 1, none⟩ = some (.slice none 0 0) := by rw [cell_of_block q]; rfl
    have rz := fun o => frozen_of_block (o := o) q
    have rl := lt_of_block q
    have hbw := below_trans HB.out hb
    obtain ⟨av, capv, hsh⟩ := hG.shape
    by_cases hlk : us.length < ts.length
    · obtain ⟨bk, ok, kk, nk, mk, p1, m1, b1, d1, p2, m2, b2, d2, lk, m3, b3, d3, g1, hab, hblt, e0, e1, e2, e3, e4, e5, e6, e7, e8, hkat, -⟩ := HG.out us.length hlk
      subst hab
      replace e0 := cell_keep e0 hbw
      replace e1 := cell_keep e1 hbw
      replace e2 := cell_keep e2 hbw
      replace e3 := cell_keep e3 hbw
      replace e4 := cell_keep e4 hbw
      replace e5 := cell_keep e5 hbw
      replace e6 := cell_keep e6 hbw
      replace e7 := cell_keep e7 hbw
      replace e8 := cell_keep e8 hbw
      have hj0 : (0 : Int) ≤ (us.length : Int) := by omega
      have hj1 : (us.length : Int) < (ts.length : Int) := by omega
      have HBR := hid hb
      have HGR := hid hG
      have HQ := hid (fun (W : World) (h : Below wr.heap.size wr W) => HQW.out W (below_trans hb h))
      have HREJ := hid (HRE.out us.length hlk _ g1 wr hb hkat)
      clear q qb hG hkat hbw hb
      subst hsh
      go_wp2_with fail
      refine HREJ.out.mono ?_
      rintro e y ⟨T, hT, vm, g, rfl, hatm, hfm, hy⟩
      obtain ⟨k, n, a, c, rfl⟩ := hatm.agg
      obtain ⟨qb, q⟩ := HQ.out y hy
      clear x0 x1 x2 x3 x4 x5 x6 x7 x8 e0 e1 e2 e3 e4 e5 e6 e7 e8 r0 r1 rz rl
      have hya : Below y.heap.size y (y.alloc (Obj.cells #[.int .i64 k, .slice a n c] 32)) := (Below.refl _ _).alloc (Nat.le_refl _) _
      cases hbo : (tyX xs.reverse ts[us.length]).isSome with
      | false =>
        have hoo : tyX xs.reverse ts[us.length] = none := by cases hq : tyX xs.reverse ts[us.length] <;> simp_all
        have HN := hid (HR1.out (tyXL_none (List.getElem_mem hlk) hoo))
        have hbw := below_trans (below_trans (below_trans HB.out HBR.out) hy) hya
        have FIN := hid (MadeTO.stored (w := w) (P := w.heap.size + 1) (B := w.heap.size + 1 + 1) (o := oR) (T := .mk 0 []) (by rw [HN.out]; intro u h; cases h) (b := false) (by rw [HN.out]; rfl) (no_ty9 _) (Fresh.nil _ _) (Nat.lt_succ_self _) (Nat.le_succ _) hbw)
        replace q := (hya.block _ (lt_of_block q)).trans q
        have r0 : (y.alloc (Obj.cells #[.int .i64 k, .slice a n c] 32)).cell? ⟨w.heap.size + 1, 0, none⟩ = some (.int .i64 0) := by rw [cell_of_block q]; rfl
        have r1 : (y.alloc (Obj.cells #[.int .i64 k, .slice a n c] 32)).cell? ⟨w.heap.size + 1, 1, none⟩ = some (.slice none 0 0) := by rw [cell_of_block q]; rfl
        have rz := fun o => frozen_of_block (o := o) q
        have rl := lt_of_block q
        clear q qb hbw HQW HB HSZ HQ HRE HV HR1 HR2 HRES HREJ HBR HGR HG hatm hfm hT hoo HN hbo hya hy z0 z1 z2 z3 z4 z5 z6 z7 z8
        go_wp2_with fail
        exact bodyPost_ret (v := .tuple #[.agg #[.int .i64 0, .slice none 0 0], .bool false]) (by simp [results, Tryd.results70, go_sem, r0, r1]) rfl FIN.out
      | true =>
        have hoo : tyX xs.reverse ts[us.length] = some T := by
          cases hq : tyX xs.reverse ts[us.length] with
          | none => rw [hq] at hbo; cases hbo
          | some u => rw [hT u hq]
        have HTL2 := hid (show tyXL xs.reverse (ts.take (us.length + 1)) = some (us ++ [T]) from by
          rw [List.take_succ_eq_append_getElem hlk]
          exact tyXL_snoc hoo HTL.out)
        have HUV2 := hid (show ∀ u ∈ us ++ [T], vld u = true from fun u hm => by
          rcases List.mem_append.1 hm with h | h
          · exact HUV.out u h
          · simp only [List.mem_singleton] at h; subst h; exact HV.out us.length hlk u hoo)
        have hWY : wr.heap.size ≤ y.heap.size := hy.size
        have hnw : ((y.alloc (Obj.cells #[.int .i64 k, .slice a n c] 32)).alloc (Obj.cells #[.int .i64 k, .slice a n c] 32)).heap[y.heap.size + 1]? = some (Obj.cells #[.int .i64 k, .slice a n c] 32) := by have h := heap_alloc_new (y.alloc (Obj.cells #[.int .i64 k, .slice a n c] 32)) (Obj.cells #[.int .i64 k, .slice a n c] 32); rwa [show (y.alloc (Obj.cells #[.int .i64 k, .slice a n c] 32)).heap.size = y.heap.size + 1 from by simp] at h
        have hbY := below_trans hy hya
        have hatY := hatm.below hya
        have hfY := hfm.below hya
        have hb6 := alloc_new y (Obj.cells #[.int .i64 k, .slice a n c] 32)
        clear hbo hT hatm hfm hy hya q qb HQ HREJ
        have m0 : (y.alloc (Obj.cells #[.int .i64 k, .slice a n c] 32)).cell? ⟨y.heap.size, 0, none⟩ = some (.int .i64 k) := by rw [cell_of_block hb6]; rfl
        have m1 : (y.alloc (Obj.cells #[.int .i64 k, .slice a n c] 32)).cell? ⟨y.heap.size, 1, none⟩ = some (.slice a n c) := by rw [cell_of_block hb6]; rfl
        have ml := lt_of_block hb6
        obtain ⟨xl, ho1, ha1, hf1, hn1⟩ := HGR.out.below hbY
        have hBW : w.heap.size + 1 + 1 ≤ wr.heap.size := by have := HBR.out.size; rw [HSZ.out] at this; exact this
        have h63 : us.length + 1 ≤ maxLen := by unfold maxLen; omega
        have hby : (us.length + 1) * 32 ≤ 140737488355328 := by omega
        go_wp2_with (refine wpList_append_lies _ rfl (.tmp 70) (.tmp 72) 30 rfl (w.heap.size + 1 + 1) 32 i0 _ 2 32 Tryd.underElems hi0 hz0 hz1 hz2 rfl (by omega) (.slice av us.length capv) us.length xl rfl (ho1.alloc _) ⟨y.heap.size + 1, 0, none⟩ 1 1 [.int .i64 k, .slice a n c] rfl rfl (World.news_of_block (cs := #[.int .i64 k, .slice a n c]) (t := 32) (fr := (0, 0)) hnw) (by simp [Value.oneCell']) (by omega) h63 hby (by simp; omega) (y.heap.size + 1 + 1) (by simp) ?_; intro g3 cp w3 hown3 hgrow hat3 hlt3)
        have hG3 := GrowT.step (w2 := (y.alloc (Obj.cells #[.int .i64 k, .slice a n c] 32)).alloc (Obj.cells #[.int .i64 k, .slice a n c] 32)) ha1 hf1 hn1 HGR.out.block.1 HGR.out.block.2 hBW hatY hfY ((Below.refl _ _).alloc (Nat.le_refl _) _) hgrow hown3 rfl (by simpa using hat3)
        have hw3 : Below (w.heap.size + 1 + 1) (y.alloc (Obj.cells #[.int .i64 k, .slice a n c] 32)) w3 := ((Below.refl _ _).alloc (by omega) _).grown hgrow (by simp; omega) (fun b hb => by have := (ho1.lt b hb).1; omega)
        have hbb := (HBR.out.trans (hbY.mono (by rw [HSZ.out]; exact hBW))).trans (hw3.mono (by rw [HSZ.out]; exact Nat.le_refl _))
        have HG3 := hid hG3
        have HBB := hid hbb
        clear hG3 hbb hw3 hown3 hgrow hat3 hlt3 ho1 ha1 hf1 hn1 hbY hatY hfY hb6 m0 m1 ml
        go_wp2_with fail
        exact ⟨⟨us.length + 1, _, us ++ [T], by omega, by go_num, by simp, HG3.out, HTL2.out, HUV2.out, HBB.out⟩, by simp [intOf]; omega⟩
    · have hjl : us.length = ts.length := by omega
      obtain ⟨fp', hsl, -⟩ := hG.done (by unfold maxLen; omega)
      have htt : tyXL xs.reverse ts = some us := by have h := HTL.out; rw [hjl, List.take_length] at h; exact h
      have HR := hid (HR2.out us htt)
      have HCALL := hid (HRES.out us _ fp' wr hb hsl hjl HUV.out)
      have HQ := hid (fun (W : World) (h : Below wr.heap.size wr W) => (h.block _ rl).trans q)
      have HBR := hid hbw
      rw [← HR.out] at HCALL
      have HPL := hid (show w.heap.size + 1 < wr.heap.size from rl)
      clear q qb hG hbw hb HQW HRE HV HR1 HR2 HRES HG hsl htt HR HTL HUV r0 r1 rz hjl
      subst hsh
      go_wp2_with fail
      refine HCALL.out.mono ?_
      rintro e w2 ⟨T, hT, vm, g2, rfl, hat2, hf2, hb2⟩
      obtain ⟨k5, n5, a5, c5, rfl⟩ := hat2.agg
      have q := HQ.out w2 hb2
      have r0 : w2.cell? ⟨w.heap.size + 1, 0, none⟩ = some (.int .i64 0) := by rw [cell_of_block q]; rfl
      have r1 : w2.cell? ⟨w.heap.size + 1, 1, none⟩ = some (.slice none 0 0) := by rw [cell_of_block q]; rfl
      have rz := fun o => frozen_of_block (o := o) q
      have rl2 := lt_of_block q
      have FIN := hid (MadeTO.stored (w := w) (P := w.heap.size + 1) (B := wr.heap.size) (o := oR) hT rfl hat2 hf2 HPL.out (Nat.le_succ _) (below_trans HBR.out hb2))
      generalize oR.isSome = bb at *
      clear q hat2 hf2 hb2 HCALL HQ x0 x1 x2 x3 x4 x5 x6 x7 x8
      go_wp2_with fail
      exact bodyPost_ret (v := .tuple #[.agg #[.int .i64 k5, .slice a5 n5 c5], .bool bb]) (by simp [results, Tryd.results70, go_sem, r0, r1]) rfl FIN.out



theorem tyD : ∀ d, TyD d
  | 0 => by
    intro t xs s v fs fe w h
    simp [shpC] at h
  | d + 1 => by
    intro t xs s v fs fe w h hs hat hx hn
    obtain ⟨k, nm, num, ty, fr, lb, ts⟩ := t
    simp only [shpC, Bool.and_eq_true, beq_iff_eq, bne_iff_ne, List.all_eq_true] at h
    obtain ⟨⟨⟨h1, h2⟩, h3⟩, h4⟩ := h
    have hr : 1 ≤ k ∧ k ≤ 14 ∧ ts.length ≤ 3 := by
      unfold kidsM at h1
      refine ⟨?_, ?_, ?_⟩ <;> (repeat' split at h1) <;> omega
    have hleaf : ∀ q : Int, q = k → kidsM q = 0 → q ≠ 14 → q ≠ 5 → ∀ W, Below w.heap.size w W → Calls Tryd.prog 58 #[s, v] W (MadeTO W (tyX xs.reverse (.mk k nm num ty fr lb ts))) := fun q hq hk0 hk14 hk5 W hb => by
      subst hq
      have hts : ts = [] := List.eq_nil_of_length_eq_zero (by omega)
      subst hts
      have hq4 : q = 1 ∨ q = 2 ∨ q = 3 ∨ q = 4 := by
        unfold kidsM at hk0
        split at hk0
        · assumption
        · repeat' split at hk0
          all_goals omega
      rcases hq4 with rfl | rfl | rfl | rfl
      · exact ty_1 nm num ty fr lb [] xs s v fs fe W (hs.below hb) (hat.below hb) (fun x hm => shp_cnt8 (hx x hm) (by omega))
      · exact ty_2 nm num ty fr lb [] s v fe W (hat.below hb)
      · exact ty_3 nm num ty fr lb [] s v fe W (hat.below hb)
      · exact ty_4 nm num ty fr lb [] s v fe W (hat.below hb)
    by_cases hk1 : k = 1
    · subst hk1
      exact tx_1 nm num ty fr lb ts _ s v fe w hat (hleaf 1 rfl (by decide) (by decide) (by decide))
    by_cases hk2 : k = 2
    · subst hk2
      exact tx_2 nm num ty fr lb ts _ s v fe w hat (hleaf 2 rfl (by decide) (by decide) (by decide))
    by_cases hk3 : k = 3
    · subst hk3
      exact tx_3 nm num ty fr lb ts _ s v fe w hat (hleaf 3 rfl (by decide) (by decide) (by decide))
    by_cases hk4 : k = 4
    · subst hk4
      exact tx_4 nm num ty fr lb ts _ s v fe w hat (hleaf 4 rfl (by decide) (by decide) (by decide))
    by_cases hk5 : k = 5
    · subst hk5
      rw [if_neg (by decide)] at h3
      simp only [ownM, Bool.and_eq_true] at h3
      exact tx_5 (tyD d) nm num ty fr lb ts xs s v fs fe w hs hat (by have : kidsM 5 = 1 := (by decide); omega) h4 (by simpa using h3.1.1.2) hx (by omega)
    exact tx_node (tyD d) k (by omega) hr.2.1 h2 nm num ty fr lb ts xs s v fs fe w hs hat h1 hr.2.2 h4 (fun e => by rw [if_pos e] at h3; simp only [own4, Bool.and_eq_true] at h3; exact ⟨h3.1.1.2, h3.1.2⟩) hx (by omega)
end Go.Proofs.YtffmpjcjmffdeaaDoor

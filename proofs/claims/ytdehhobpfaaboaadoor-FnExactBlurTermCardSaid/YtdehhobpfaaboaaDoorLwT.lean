/- Memory apart: what marks leave alone (as XFin2, without the types' own functions). Terms that stay while others are marked; how many marks a term takes. The law on WithTypes: it returns true and writes nothing that was there. -/
import Derived.Test.YtdehhobpfaaboaaDoorPkA
import Derived.Test.YtdehhobpfaaboaaDoorPkC
import Derived.Test.YtdehhobpfaaboaaDoorWtA
import Derived.Test.YtdehhobpfaaboaaDoorPkB
import Derived.Deep.RegionHeld3
namespace Go.Proofs.YtdehhobpfaaboaaDoor
open Go.RowKit


theorem eqTypeS_any (ts : List Ty) : EqSC ts := eqTypeS_of ts (fun t _ => eqType_any t)

theorem SlAt.only {w w' : World} {ts : List Ty} {s : Value} {fp g : List Nat} (h : SlAt w ts s fp) (hg : Only g w w') (hd : ∀ x ∈ fp, x ∉ g) : SlAt w' ts s fp :=
  h.congr fun x hx o' => World.cell?_of_block (w := w) (a := ⟨x, o', none⟩) (hg.block x (h.lt x hx) (hd x hx))

def sumT (T : Nat → Ty) : Nat → Nat → Nat
  | _, 0 => 0
  | n, m + 1 => (T n).cnt + sumT T (n + 1) m

theorem sumT_add (T : Nat → Ty) : ∀ (a b n : Nat), sumT T n (a + b) = sumT T n a + sumT T (n + a) b
  | 0, b, n => by simp [sumT]
  | a + 1, b, n => by
    rw [show a + 1 + b = (a + b) + 1 by omega]
    simp only [sumT]
    rw [sumT_add T a b (n + 1), show n + 1 + a = n + (a + 1) by omega]
    omega

theorem sumT_lst (L : List Ty) : ∀ (m n : Nat), sumT (lstT L) n m ≤ cntL (L.drop n)
  | 0, n => by simp [sumT]
  | m + 1, n => by
    have h := sumT_lst L m (n + 1)
    simp only [sumT]
    by_cases hn : n < L.length
    · rw [List.drop_eq_getElem_cons hn]
      simp only [cntL, lstT, List.getElem?_eq_getElem hn, Option.getD_some]
      omega
    · have e1 : L.drop (n + 1) = [] := List.drop_eq_nil_of_le (by omega)
      rw [e1] at h
      have e2 : lstT L n = .mk 0 [] := by simp [lstT, List.getElem?_eq_none (show L.length ≤ n by omega)]
      rw [e2]
      simp only [Ty.cnt, List.length_nil, cntL] at *
      omega

mutual
theorem wi_num (T : Nat → Ty) : ∀ (t : Tm) (n : Nat), (wiT T n t).num ≤ t.num + sumT T n (tysOf t).length
  | .mk k nm num ty fr lb ts, n => by
    by_cases hk : k = 5 ∨ k = 13
    · have hl : (tysOf (.mk k nm num ty fr lb ts)).length = 1 + (tysL ts).length := by simp only [tysOf, List.length_append, if_pos hk]; rfl
      have h1 := wi_numL T ts (n + 1)
      have h2 := sumT_add T 1 (tysL ts).length n
      simp only [sumT] at h2
      simp only [wiT, Tm.num, hasTy, hk, decide_true, ↓reduceIte, hl]
      omega
    · have hl : (tysOf (.mk k nm num ty fr lb ts)).length = (tysL ts).length := by simp only [tysOf, List.length_append, if_neg hk, List.length_nil, Nat.zero_add]
      have h1 := wi_numL T ts n
      simp only [wiT, Tm.num, hasTy, hk, decide_false, Bool.false_eq_true, ↓reduceIte, hl]
      omega
theorem wi_numL (T : Nat → Ty) : ∀ (ts : List Tm) (n : Nat), numL (wiL T n ts) ≤ numL ts + sumT T n (tysL ts).length
  | [], _ => by simp [wiL, numL]
  | t :: ts, n => by
    have h1 := wi_num T t n
    have h2 := wi_numL T ts (n + (tysOf t).length)
    have h3 := sumT_add T (tysOf t).length (tysL ts).length n
    simp only [wiL, numL, tysL, List.length_append]
    omega
end

theorem wiM_num (L : List Ty) (t : Tm) : (wiM L t).num ≤ t.num + cntL L := by
  unfold wiM
  split
  · have h1 := wi_num (lstT L) t 0
    have h2 := sumT_lst L (tysOf t).length 0
    rw [List.drop_zero] at h2
    omega
  · simp [zTm, Tm.num, numL, Ty.cnt, cntL]

set_option maxHeartbeats 16000000 in
set_option maxRecDepth 100000 in
theorem lawWithTypes (t : Tm) (v : Value) (fp : List Nat) (L : List Ty) (s : Value) (lfp : List Nat) (w : World) (hF : Forms w) (hat : t.At w v fp) (hls : SlAt w L s lfp) :
    Calls Tryd.prog 8 #[v, s] w fun e w' => e = .returned (.bool true) ∧ Below w.heap.size w w' := by
  obtain ⟨k, nm, num, k1, n1, a1, c1, k2, n2, a2, c2, lb, n3, a3, c3, rfl⟩ := hat.agg
  obtain ⟨la, lcap, rfl⟩ := hls.shape
  have hlA := hat.lt
  have hlL := hls.lt
  have hF0 : 0 < w.heap.size := World.block_lt_of_cell? _ _ (hF 0 (by omega))
  have hb0 : Below w.heap.size w (w.alloc (Obj.cells #[.int .i64 k, .string nm, .int .i64 num, .int .i64 k1, .slice a1 n1 c1, .int .i64 k2, .slice a2 n2 c2, .int .i64 lb, .slice a3 n3 c3] 27)) := (Below.refl _ _).alloc (Nat.le_refl _) _
  by_cases hc : t.sz ≤ 1048576
  case neg =>
    have HS := hid (show szM t.sz 1048576 = -1 by unfold szM; rw [if_neg (by omega)])
    go_enter Tryd.func8, Tryd.ntmps8
    go_wp2_with fail
    refine (szTerm_any t _ fp 1048576 _ (by omega) (by omega) (hat.below hb0)).mono ?_
    rw [HS.out]
    rintro e w1 ⟨rfl, hb1⟩
    go_wp2_with fail
    go_ret
    exact ⟨rfl, alloc1 hb1⟩
  have hpos : (0 : Int) ≤ 1048576 - (t.sz : Int) := by omega
  have HS := hid (show szM t.sz 1048576 = 1048576 - (t.sz : Int) by unfold szM; rw [if_pos (by omega)])
  by_cases hcl : (((Ty.mk 0 L).cnt : Nat) : Int) ≤ 1048576 - (t.sz : Int)
  case neg =>
    have HS2 := hid ((szT_eq (.mk 0 L) (1048576 - (t.sz : Int)) hpos).2 (by omega))
    go_enter Tryd.func8, Tryd.ntmps8
    go_wp2_with fail
    refine (szTerm_any t _ fp 1048576 _ (by omega) (by omega) (hat.below hb0)).mono ?_
    rw [HS.out]
    rintro e w1 ⟨rfl, hb1⟩
    go_wp2_with fail
    refine (szTypeS_of L (fun t _ => szType_any t) _ lfp _ _ (by omega) (by omega) (hls.below (below_trans hb0 hb1))).mono ?_
    rw [HS2.out]
    rintro e w2 ⟨rfl, hb2⟩
    go_wp2_with fail
    go_ret
    exact ⟨rfl, below_trans (alloc1 hb1) hb2⟩
  have HS2 := hid ((szT_eq (.mk 0 L) (1048576 - (t.sz : Int)) hpos).1 hcl)
  have hpos2 : (0 : Int) ≤ 1048576 - (t.sz : Int) - ((Ty.mk 0 L).cnt : Int) := by omega
  have hlc : (Ty.mk 0 L).cnt = L.length + cntL L := by simp only [Ty.cnt]
  have hcL : (Ty.mk 0 L).cnt ≤ 1048576 := by omega
  have hLe : ∀ u ∈ L, u.cnt ≤ 1048576 := fun u hu => by have := cnt_mem hu; omega
  have hnum : 1 + t.num ≤ 1073741824 := by have := num_le t; omega
  have hnum2 : 1 + (wiM L t).num ≤ 1073741824 := by have := wiM_num L t; have := num_le t; omega
  have hnum3 : ((1 + t.num : Nat) : Int) + ((Ty.mk 0 L).cnt : Int) ≤ 1073741824 := by have := num_le t; omega
  have hp1 : (0 : Int) ≤ ((1 + t.num : Nat) : Int) := by omega
  have hp2 : (0 : Int) ≤ ((1 + (wiM L t).num : Nat) : Int) := by omega
  have hp3 : (0 : Int) ≤ ((1 + t.num : Nat) : Int) + ((Ty.mk 0 L).cnt : Int) := by omega
  have HSP := hid (fun (v : Value) (fp : List Nat) (s : Value) (lfp : List Nat) (w : World) (h : t.At w v fp) (h2 : SlAt w L s lfp) => specWithTypes L hLe t v fp s lfp w hc h h2)
  have HIM := hid (fun (v : Value) (fp : List Nat) (s : Value) (lfp : List Nat) (w : World) (hF : Forms w) (h : t.At w v fp) (h2 : SlAt w L s lfp) => implWithTypes L t v fp s lfp w hc hF h h2)
  have HTS := hid (fun (s : Value) (fp : List Nat) (w : World) (h : SlAt w L s fp) => toTypeS_of L (fun t _ => toType_any t) s fp w h hcL)
  have HEQ := hid (fun (s1 s2 : Value) (f1 f2 : List Nat) (w : World) (h1 : SlAt w L s1 f1) (h2 : SlAt w L s2 f2) => eqTypeS_any L L s1 s2 f1 f2 w h1 h2)
  have hmk := markTypeS_any L
  unfold MkC MarkS at hmk
  have HMK := hid hmk
  clear hmk
  rw [tyEqL_refl] at HEQ
  generalize (Ty.mk 0 L).cnt = LC at *
  generalize wiM L t = E at *
  generalize wiOk L t = ok at *
  clear hlc hLe
  go_enter Tryd.func8, Tryd.ntmps8
  go_wp2_with fail
  refine (szTerm_any t _ fp 1048576 _ (by omega) (by omega) (hat.below hb0)).mono ?_
  rw [HS.out]
  rintro e w1 ⟨rfl, hb1⟩
  have hz := below_trans hb0 hb1
  replace hat := hat.below hz
  replace hF := hF.below hz
  replace hls := hls.below hz
  obtain ⟨x0, x1, x2, x3, x4, x5, x6, x7, x8⟩ := box9 hb1
  clear hb0 hb1
  go_wp2_with fail
  refine (szTypeS_of L (fun t _ => szType_any t) _ lfp _ _ (by omega) (by omega) hls).mono ?_
  rw [HS2.out]
  rintro e w1' ⟨rfl, hb⟩
  replace x0 := cell_keep x0 hb
  replace x1 := cell_keep x1 hb
  replace x2 := cell_keep x2 hb
  replace x3 := cell_keep x3 hb
  replace x4 := cell_keep x4 hb
  replace x5 := cell_keep x5 hb
  replace x6 := cell_keep x6 hb
  replace x7 := cell_keep x7 hb
  replace x8 := cell_keep x8 hb
  replace hat := hat.below hb
  replace hF := hF.below hb
  replace hls := hls.below hb
  replace hz := below_trans hz hb
  clear hb
  go_wp2_with fail
  refine (toTerm_any t _ fp _ hat hc).mono ?_
  rintro e w2 ⟨v2, f2, rfl, hat2, hf2, hb⟩
  replace x0 := cell_keep x0 hb
  replace x1 := cell_keep x1 hb
  replace x2 := cell_keep x2 hb
  replace x3 := cell_keep x3 hb
  replace x4 := cell_keep x4 hb
  replace x5 := cell_keep x5 hb
  replace x6 := cell_keep x6 hb
  replace x7 := cell_keep x7 hb
  replace x8 := cell_keep x8 hb
  replace hat := hat.below hb
  replace hF := hF.below hb
  replace hls := hls.below hb
  replace hz := below_trans hz hb
  clear hb hf2
  go_wp2_with fail
  refine (HTS.out _ _ _ hls).mono ?_
  rintro e w2' ⟨s2, f2', rfl, hs2, hf2', hb⟩
  replace hat2 := hat2.below hb
  obtain ⟨la2, lcap2, rfl⟩ := hs2.shape
  replace x0 := cell_keep x0 hb
  replace x1 := cell_keep x1 hb
  replace x2 := cell_keep x2 hb
  replace x3 := cell_keep x3 hb
  replace x4 := cell_keep x4 hb
  replace x5 := cell_keep x5 hb
  replace x6 := cell_keep x6 hb
  replace x7 := cell_keep x7 hb
  replace x8 := cell_keep x8 hb
  replace hat := hat.below hb
  replace hF := hF.below hb
  replace hls := hls.below hb
  replace hz := below_trans hz hb
  clear hb hf2'
  go_wp2_with fail
  refine (HSP.out _ _ _ _ _ hat2 hs2).mono ?_
  rintro e wc ⟨v6, f6, rfl, hw6, hf6, hb⟩
  obtain ⟨k6, nm6, num6, k16, n16, a16, c16, k26, n26, a26, c26, lb6, n36, a36, c36, rfl⟩ := hw6.agg
  have hb6a : Below wc.heap.size wc (wc.alloc (Obj.cells #[.int .i64 k6, .string nm6, .int .i64 num6, .int .i64 k16, .slice a16 n16 c16, .int .i64 k26, .slice a26 n26 c26, .int .i64 lb6, .slice a36 n36 c36] 34)) := (Below.refl _ _).alloc (Nat.le_refl _) _
  have hl6 := hw6.lt
  replace hb := below_trans hb hb6a
  replace x0 := cell_keep x0 hb
  replace x1 := cell_keep x1 hb
  replace x2 := cell_keep x2 hb
  replace x3 := cell_keep x3 hb
  replace x4 := cell_keep x4 hb
  replace x5 := cell_keep x5 hb
  replace x6 := cell_keep x6 hb
  replace x7 := cell_keep x7 hb
  replace x8 := cell_keep x8 hb
  replace hat := hat.below hb
  replace hF := hF.below hb
  replace hls := hls.below hb
  replace hz := below_trans hz hb
  have hSw : w.heap.size < wc.heap.size + 1 := by
    have hq := World.block_lt_of_cell? _ _ x0
    simpa using hq
  replace hw6 := hw6.below hb6a
  clear hb hb6a hf6 hat2 hs2
  go_wp2_with fail
  refine (toTerm_any t _ fp _ hat hc).mono ?_
  rintro e y4 ⟨v4, f4, rfl, h4, hf4, hb4⟩
  obtain ⟨k4, nm4, num4, k14, n14, a14, c14, k24, n24, a24, c24, lb4, n34, a34, c34, rfl⟩ := h4.agg
  obtain ⟨e0, e1, e2, e3, e4, e5, e6, e7, e8⟩ := box9 hb4
  have hb4a : Below y4.heap.size y4 (y4.alloc (Obj.cells #[.int .i64 k4, .string nm4, .int .i64 num4, .int .i64 k14, .slice a14 n14 c14, .int .i64 k24, .slice a24 n24 c24, .int .i64 lb4, .slice a34 n34 c34] 34)) := (Below.refl _ _).alloc (Nat.le_refl _) _
  have hR4 : Within (wc.heap.size + 1) y4.heap.size f4 := by have := hf4.within; simpa using this
  have hS4 : wc.heap.size + 1 ≤ y4.heap.size := by have := hb4.size; simp at this; omega
  have hb := below_trans hb4 hb4a
  replace x0 := cell_keep x0 hb
  replace x1 := cell_keep x1 hb
  replace x2 := cell_keep x2 hb
  replace x3 := cell_keep x3 hb
  replace x4 := cell_keep x4 hb
  replace x5 := cell_keep x5 hb
  replace x6 := cell_keep x6 hb
  replace x7 := cell_keep x7 hb
  replace x8 := cell_keep x8 hb
  replace hat := hat.below hb
  replace hF := hF.below hb
  replace hls := hls.below hb
  replace hw6 := hw6.below hb
  replace hz := below_trans hz hb
  replace e0 := cell_keep e0 hb4a
  replace e1 := cell_keep e1 hb4a
  replace e2 := cell_keep e2 hb4a
  replace e3 := cell_keep e3 hb4a
  replace e4 := cell_keep e4 hb4a
  replace e5 := cell_keep e5 hb4a
  replace e6 := cell_keep e6 hb4a
  replace e7 := cell_keep e7 hb4a
  replace e8 := cell_keep e8 hb4a
  replace h4 := h4.below hb4a
  replace hf4 := hf4.below hb4a
  clear hb hb4 hb4a
  go_wp2_with fail
  refine (HTS.out _ _ _ hls).mono ?_
  rintro e y5 ⟨s5, f5, rfl, h5, hf5, hb⟩
  obtain ⟨la5, lcap5, rfl⟩ := h5.shape
  obtain ⟨q0, q1, q2, q3, q4, q5, q6, q7, q8⟩ := box9 hb
  have hR5 : Within (y4.heap.size + 1) y5.heap.size f5 := by have := hf5.within; simpa using this
  have hS5 : y4.heap.size + 1 ≤ y5.heap.size := by have := hb.size; simp at this; omega
  replace x0 := cell_keep x0 hb
  replace x1 := cell_keep x1 hb
  replace x2 := cell_keep x2 hb
  replace x3 := cell_keep x3 hb
  replace x4 := cell_keep x4 hb
  replace x5 := cell_keep x5 hb
  replace x6 := cell_keep x6 hb
  replace x7 := cell_keep x7 hb
  replace x8 := cell_keep x8 hb
  replace e0 := cell_keep e0 hb
  replace e1 := cell_keep e1 hb
  replace e2 := cell_keep e2 hb
  replace e3 := cell_keep e3 hb
  replace e4 := cell_keep e4 hb
  replace e5 := cell_keep e5 hb
  replace e6 := cell_keep e6 hb
  replace e7 := cell_keep e7 hb
  replace e8 := cell_keep e8 hb
  replace hat := hat.below hb
  replace hF := hF.below hb
  replace hls := hls.below hb
  replace hw6 := hw6.below hb
  replace h4 := h4.below hb
  replace hf4 := hf4.below hb
  replace hz := below_trans hz hb
  clear hb
  go_wp2_with fail
  refine (HIM.out _ _ _ _ _ hF h4 h5).mono ?_
  rintro e y6 ⟨vg, fg, rfl, hg, hfg, hb6⟩
  obtain ⟨kg, nmg, numg, k1g, n1g, a1g, c1g, k2g, n2g, a2g, c2g, lbg, n3g, a3g, c3g, rfl⟩ := hg.agg
  have hb6a : Below y6.heap.size y6 (y6.alloc (Obj.cells #[.int .i64 kg, .string nmg, .int .i64 numg, .int .i64 k1g, .slice a1g n1g c1g, .int .i64 k2g, .slice a2g n2g c2g, .int .i64 lbg, .slice a3g n3g c3g] 34)) := (Below.refl _ _).alloc (Nat.le_refl _) _
  have hR6 : Within y5.heap.size y6.heap.size fg := hfg.within
  have hS6 : y5.heap.size ≤ y6.heap.size := hb6.size
  have hb := below_trans hb6 hb6a
  replace x0 := cell_keep x0 hb
  replace x1 := cell_keep x1 hb
  replace x2 := cell_keep x2 hb
  replace x3 := cell_keep x3 hb
  replace x4 := cell_keep x4 hb
  replace x5 := cell_keep x5 hb
  replace x6 := cell_keep x6 hb
  replace x7 := cell_keep x7 hb
  replace x8 := cell_keep x8 hb
  replace e0 := cell_keep e0 hb
  replace e1 := cell_keep e1 hb
  replace e2 := cell_keep e2 hb
  replace e3 := cell_keep e3 hb
  replace e4 := cell_keep e4 hb
  replace e5 := cell_keep e5 hb
  replace e6 := cell_keep e6 hb
  replace e7 := cell_keep e7 hb
  replace e8 := cell_keep e8 hb
  replace q0 := cell_keep q0 hb
  replace q1 := cell_keep q1 hb
  replace q2 := cell_keep q2 hb
  replace q3 := cell_keep q3 hb
  replace q4 := cell_keep q4 hb
  replace q5 := cell_keep q5 hb
  replace q6 := cell_keep q6 hb
  replace q7 := cell_keep q7 hb
  replace q8 := cell_keep q8 hb
  replace hat := hat.below hb
  replace hF := hF.below hb
  replace hls := hls.below hb
  replace hw6 := hw6.below hb
  replace h4 := h4.below hb
  replace h5 := h5.below hb
  replace hf4 := hf4.below hb
  replace hf5 := hf5.below hb
  replace hz := below_trans hz hb
  replace hg := hg.below hb6a
  replace hfg := hfg.below hb6a
  clear hb hb6 hb6a
  go_wp2_with fail
  refine (eqTerm_any E _ _ _ _ _ hg hw6).mono ?_
  rintro e y7 ⟨rfl, hb⟩
  obtain ⟨g0, g1, g2, g3, g4, g5, g6, g7, g8⟩ := box9 hb
  replace x0 := cell_keep x0 hb
  replace x1 := cell_keep x1 hb
  replace x2 := cell_keep x2 hb
  replace x3 := cell_keep x3 hb
  replace x4 := cell_keep x4 hb
  replace x5 := cell_keep x5 hb
  replace x6 := cell_keep x6 hb
  replace x7 := cell_keep x7 hb
  replace x8 := cell_keep x8 hb
  replace e0 := cell_keep e0 hb
  replace e1 := cell_keep e1 hb
  replace e2 := cell_keep e2 hb
  replace e3 := cell_keep e3 hb
  replace e4 := cell_keep e4 hb
  replace e5 := cell_keep e5 hb
  replace e6 := cell_keep e6 hb
  replace e7 := cell_keep e7 hb
  replace e8 := cell_keep e8 hb
  replace q0 := cell_keep q0 hb
  replace q1 := cell_keep q1 hb
  replace q2 := cell_keep q2 hb
  replace q3 := cell_keep q3 hb
  replace q4 := cell_keep q4 hb
  replace q5 := cell_keep q5 hb
  replace q6 := cell_keep q6 hb
  replace q7 := cell_keep q7 hb
  replace q8 := cell_keep q8 hb
  replace hat := hat.below hb
  replace hF := hF.below hb
  replace hls := hls.below hb
  replace hw6 := hw6.below hb
  replace h4 := h4.below hb
  replace h5 := h5.below hb
  replace hg := hg.below hb
  replace hf4 := hf4.below hb
  replace hf5 := hf5.below hb
  replace hfg := hfg.below hb
  replace hz := below_trans hz hb
  clear hb
  go_wp2_with fail
  go_region_held3 (fun w' => Below y7.heap.size y7 w' ∧ w'.cell? ⟨w.heap.size, 0, none⟩ = some (.int .i64 k) ∧ w'.cell? ⟨w.heap.size, 1, none⟩ = some (.string nm) ∧ w'.cell? ⟨w.heap.size, 2, none⟩ = some (.int .i64 num) ∧ w'.cell? ⟨w.heap.size, 3, none⟩ = some (.int .i64 k1) ∧ w'.cell? ⟨w.heap.size, 4, none⟩ = some (.slice a1 n1 c1) ∧ w'.cell? ⟨w.heap.size, 5, none⟩ = some (.int .i64 k2) ∧ w'.cell? ⟨w.heap.size, 6, none⟩ = some (.slice a2 n2 c2) ∧ w'.cell? ⟨w.heap.size, 7, none⟩ = some (.int .i64 lb) ∧ w'.cell? ⟨w.heap.size, 8, none⟩ = some (.slice a3 n3 c3) ∧ w'.cell? ⟨y4.heap.size, 0, none⟩ = some (.int .i64 k4) ∧ w'.cell? ⟨y4.heap.size, 1, none⟩ = some (.string nm4) ∧ w'.cell? ⟨y4.heap.size, 2, none⟩ = some (.int .i64 num4) ∧ w'.cell? ⟨y4.heap.size, 3, none⟩ = some (.int .i64 k14) ∧ w'.cell? ⟨y4.heap.size, 4, none⟩ = some (.slice a14 n14 c14) ∧ w'.cell? ⟨y4.heap.size, 5, none⟩ = some (.int .i64 k24) ∧ w'.cell? ⟨y4.heap.size, 6, none⟩ = some (.slice a24 n24 c24) ∧ w'.cell? ⟨y4.heap.size, 7, none⟩ = some (.int .i64 lb4) ∧ w'.cell? ⟨y4.heap.size, 8, none⟩ = some (.slice a34 n34 c34))
    ((refine (fun hB => ⟨hB, cell_keep x0 hB, cell_keep x1 hB, cell_keep x2 hB, cell_keep x3 hB, cell_keep x4 hB, cell_keep x5 hB, cell_keep x6 hB, cell_keep x7 hB, cell_keep x8 hB, cell_keep q0 hB, cell_keep q1 hB, cell_keep q2 hB, cell_keep q3 hB, cell_keep q4 hB, cell_keep q5 hB, cell_keep q6 hB, cell_keep q7 hB, cell_keep q8 hB⟩ : Below y7.heap.size y7 _ → _) ?_; (first | exact below_drew y7 | exact hk1 | exact hk2)))
    (first
      | (go_at_call 16; refine (toTerm_any t _ fp _ (hat.below (below_drew y7)) hc).mono ?_; rintro e y8 ⟨uu8, gg8, rfl, hu, hgg, hy⟩; have hk1 := below_trans (below_drew y7) hy)
      | (go_at_call 18; refine (eqTerm_any t _ _ _ _ _ (h4.below hk1) hu).mono ?_; rintro e y9 ⟨rfl, hyy⟩; have hk2 := below_trans hk1 hyy))
  replace x0 := cell_keep x0 hk2
  replace x1 := cell_keep x1 hk2
  replace x2 := cell_keep x2 hk2
  replace x3 := cell_keep x3 hk2
  replace x4 := cell_keep x4 hk2
  replace x5 := cell_keep x5 hk2
  replace x6 := cell_keep x6 hk2
  replace x7 := cell_keep x7 hk2
  replace x8 := cell_keep x8 hk2
  replace e0 := cell_keep e0 hk2
  replace e1 := cell_keep e1 hk2
  replace e2 := cell_keep e2 hk2
  replace e3 := cell_keep e3 hk2
  replace e4 := cell_keep e4 hk2
  replace e5 := cell_keep e5 hk2
  replace e6 := cell_keep e6 hk2
  replace e7 := cell_keep e7 hk2
  replace e8 := cell_keep e8 hk2
  replace q0 := cell_keep q0 hk2
  replace q1 := cell_keep q1 hk2
  replace q2 := cell_keep q2 hk2
  replace q3 := cell_keep q3 hk2
  replace q4 := cell_keep q4 hk2
  replace q5 := cell_keep q5 hk2
  replace q6 := cell_keep q6 hk2
  replace q7 := cell_keep q7 hk2
  replace q8 := cell_keep q8 hk2
  replace g0 := cell_keep g0 hk2
  replace g1 := cell_keep g1 hk2
  replace g2 := cell_keep g2 hk2
  replace g3 := cell_keep g3 hk2
  replace g4 := cell_keep g4 hk2
  replace g5 := cell_keep g5 hk2
  replace g6 := cell_keep g6 hk2
  replace g7 := cell_keep g7 hk2
  replace g8 := cell_keep g8 hk2
  replace hat := hat.below hk2
  replace hF := hF.below hk2
  replace hls := hls.below hk2
  replace hw6 := hw6.below hk2
  replace h4 := h4.below hk2
  replace h5 := h5.below hk2
  replace hg := hg.below hk2
  replace hf4 := hf4.below hk2
  replace hf5 := hf5.below hk2
  replace hfg := hfg.below hk2
  replace hz := below_trans hz hk2
  clear hk1 hk2 hu hgg hy hyy
  go_wp2_with fail
  refine (HTS.out _ _ _ hls).mono ?_
  rintro e y10 ⟨s10, f10, rfl, h10, hf10, hb⟩
  obtain ⟨la10, lcap10, rfl⟩ := h10.shape
  replace x0 := cell_keep x0 hb
  replace x1 := cell_keep x1 hb
  replace x2 := cell_keep x2 hb
  replace x3 := cell_keep x3 hb
  replace x4 := cell_keep x4 hb
  replace x5 := cell_keep x5 hb
  replace x6 := cell_keep x6 hb
  replace x7 := cell_keep x7 hb
  replace x8 := cell_keep x8 hb
  replace e0 := cell_keep e0 hb
  replace e1 := cell_keep e1 hb
  replace e2 := cell_keep e2 hb
  replace e3 := cell_keep e3 hb
  replace e4 := cell_keep e4 hb
  replace e5 := cell_keep e5 hb
  replace e6 := cell_keep e6 hb
  replace e7 := cell_keep e7 hb
  replace e8 := cell_keep e8 hb
  replace q0 := cell_keep q0 hb
  replace q1 := cell_keep q1 hb
  replace q2 := cell_keep q2 hb
  replace q3 := cell_keep q3 hb
  replace q4 := cell_keep q4 hb
  replace q5 := cell_keep q5 hb
  replace q6 := cell_keep q6 hb
  replace q7 := cell_keep q7 hb
  replace q8 := cell_keep q8 hb
  replace g0 := cell_keep g0 hb
  replace g1 := cell_keep g1 hb
  replace g2 := cell_keep g2 hb
  replace g3 := cell_keep g3 hb
  replace g4 := cell_keep g4 hb
  replace g5 := cell_keep g5 hb
  replace g6 := cell_keep g6 hb
  replace g7 := cell_keep g7 hb
  replace g8 := cell_keep g8 hb
  replace hat := hat.below hb
  replace hF := hF.below hb
  replace hls := hls.below hb
  replace hw6 := hw6.below hb
  replace h4 := h4.below hb
  replace h5 := h5.below hb
  replace hg := hg.below hb
  replace hf4 := hf4.below hb
  replace hf5 := hf5.below hb
  replace hfg := hfg.below hb
  replace hz := below_trans hz hb
  clear hb hf10
  go_wp2_with fail
  refine (HEQ.out _ _ _ _ _ h5 h10).mono ?_
  rintro e y11 ⟨rfl, hb⟩
  replace x0 := cell_keep x0 hb
  replace x1 := cell_keep x1 hb
  replace x2 := cell_keep x2 hb
  replace x3 := cell_keep x3 hb
  replace x4 := cell_keep x4 hb
  replace x5 := cell_keep x5 hb
  replace x6 := cell_keep x6 hb
  replace x7 := cell_keep x7 hb
  replace x8 := cell_keep x8 hb
  replace e0 := cell_keep e0 hb
  replace e1 := cell_keep e1 hb
  replace e2 := cell_keep e2 hb
  replace e3 := cell_keep e3 hb
  replace e4 := cell_keep e4 hb
  replace e5 := cell_keep e5 hb
  replace e6 := cell_keep e6 hb
  replace e7 := cell_keep e7 hb
  replace e8 := cell_keep e8 hb
  replace q0 := cell_keep q0 hb
  replace q1 := cell_keep q1 hb
  replace q2 := cell_keep q2 hb
  replace q3 := cell_keep q3 hb
  replace q4 := cell_keep q4 hb
  replace q5 := cell_keep q5 hb
  replace q6 := cell_keep q6 hb
  replace q7 := cell_keep q7 hb
  replace q8 := cell_keep q8 hb
  replace g0 := cell_keep g0 hb
  replace g1 := cell_keep g1 hb
  replace g2 := cell_keep g2 hb
  replace g3 := cell_keep g3 hb
  replace g4 := cell_keep g4 hb
  replace g5 := cell_keep g5 hb
  replace g6 := cell_keep g6 hb
  replace g7 := cell_keep g7 hb
  replace g8 := cell_keep g8 hb
  replace hat := hat.below hb
  replace hF := hF.below hb
  replace hls := hls.below hb
  replace hw6 := hw6.below hb
  replace h4 := h4.below hb
  replace h5 := h5.below hb
  replace hg := hg.below hb
  replace hf4 := hf4.below hb
  replace hf5 := hf5.below hb
  replace hfg := hfg.below hb
  replace hz := below_trans hz hb
  clear hb h10
  go_wp2_with fail
  have hRA : Within 0 w.heap.size fp := fun b hb => ⟨Nat.zero_le _, hlA b hb⟩
  have hRL : Within 0 w.heap.size lfp := fun b hb => ⟨Nat.zero_le _, hlL b hb⟩
  have hRw : Within 0 wc.heap.size f6 := fun b hb => ⟨Nat.zero_le _, hl6 b hb⟩
  have hFz : 0 < w.heap.size := hF0
  refine (markTerm_any t _ f4 1 _ _ h4 hf4.1 (fun b hb => (hf4.2 b hb).2.2) rfl hnum).mono ?_
  rintro e y12 ⟨rfl, _, hon⟩
  clear q0 q1 q2 q3 q4 q5 q6 q7 q8 h4 hf4
  replace x0 := cell_only x0 hon (by first | exact hR4.low (by omega) | exact hR4.high (by omega))
  replace x1 := cell_only x1 hon (by first | exact hR4.low (by omega) | exact hR4.high (by omega))
  replace x2 := cell_only x2 hon (by first | exact hR4.low (by omega) | exact hR4.high (by omega))
  replace x3 := cell_only x3 hon (by first | exact hR4.low (by omega) | exact hR4.high (by omega))
  replace x4 := cell_only x4 hon (by first | exact hR4.low (by omega) | exact hR4.high (by omega))
  replace x5 := cell_only x5 hon (by first | exact hR4.low (by omega) | exact hR4.high (by omega))
  replace x6 := cell_only x6 hon (by first | exact hR4.low (by omega) | exact hR4.high (by omega))
  replace x7 := cell_only x7 hon (by first | exact hR4.low (by omega) | exact hR4.high (by omega))
  replace x8 := cell_only x8 hon (by first | exact hR4.low (by omega) | exact hR4.high (by omega))
  replace e0 := cell_only e0 hon (by first | exact hR4.low (by omega) | exact hR4.high (by omega))
  replace e1 := cell_only e1 hon (by first | exact hR4.low (by omega) | exact hR4.high (by omega))
  replace e2 := cell_only e2 hon (by first | exact hR4.low (by omega) | exact hR4.high (by omega))
  replace e3 := cell_only e3 hon (by first | exact hR4.low (by omega) | exact hR4.high (by omega))
  replace e4 := cell_only e4 hon (by first | exact hR4.low (by omega) | exact hR4.high (by omega))
  replace e5 := cell_only e5 hon (by first | exact hR4.low (by omega) | exact hR4.high (by omega))
  replace e6 := cell_only e6 hon (by first | exact hR4.low (by omega) | exact hR4.high (by omega))
  replace e7 := cell_only e7 hon (by first | exact hR4.low (by omega) | exact hR4.high (by omega))
  replace e8 := cell_only e8 hon (by first | exact hR4.low (by omega) | exact hR4.high (by omega))
  replace g0 := cell_only g0 hon (by first | exact hR4.low (by omega) | exact hR4.high (by omega))
  replace g1 := cell_only g1 hon (by first | exact hR4.low (by omega) | exact hR4.high (by omega))
  replace g2 := cell_only g2 hon (by first | exact hR4.low (by omega) | exact hR4.high (by omega))
  replace g3 := cell_only g3 hon (by first | exact hR4.low (by omega) | exact hR4.high (by omega))
  replace g4 := cell_only g4 hon (by first | exact hR4.low (by omega) | exact hR4.high (by omega))
  replace g5 := cell_only g5 hon (by first | exact hR4.low (by omega) | exact hR4.high (by omega))
  replace g6 := cell_only g6 hon (by first | exact hR4.low (by omega) | exact hR4.high (by omega))
  replace g7 := cell_only g7 hon (by first | exact hR4.low (by omega) | exact hR4.high (by omega))
  replace g8 := cell_only g8 hon (by first | exact hR4.low (by omega) | exact hR4.high (by omega))
  replace hat := hat.only hon (hR4.apart hRA (by omega))
  replace hls := hls.only hon (hR4.apart hRL (by omega))
  replace hw6 := hw6.only hon (hR4.apart hRw (by omega))
  replace h5 := h5.only hon (hR4.apart hR5 (by omega))
  replace hg := hg.only hon (hR4.apart hR6 (by omega))
  replace hF : Forms _ := fun j hj => cell_only (hF j hj) hon (hR4.low (by omega))
  replace hf5 := hf5.only hon
  replace hfg := hfg.only hon
  replace hz := belowOnly hz hon (by have := hz.size; omega) (fun b hb => by have := (hR4 b hb).1; omega)
  clear hon
  go_wp2_with fail
  refine (HMK.out _ f5 _ _ h5 hf5.1 (fun b hb => (hf5.2 b hb).2.2) hp1 hnum3).mono ?_
  rintro e y13 ⟨rfl, _, hon⟩
  clear h5 hf5
  replace x0 := cell_only x0 hon (by first | exact hR5.low (by omega) | exact hR5.high (by omega))
  replace x1 := cell_only x1 hon (by first | exact hR5.low (by omega) | exact hR5.high (by omega))
  replace x2 := cell_only x2 hon (by first | exact hR5.low (by omega) | exact hR5.high (by omega))
  replace x3 := cell_only x3 hon (by first | exact hR5.low (by omega) | exact hR5.high (by omega))
  replace x4 := cell_only x4 hon (by first | exact hR5.low (by omega) | exact hR5.high (by omega))
  replace x5 := cell_only x5 hon (by first | exact hR5.low (by omega) | exact hR5.high (by omega))
  replace x6 := cell_only x6 hon (by first | exact hR5.low (by omega) | exact hR5.high (by omega))
  replace x7 := cell_only x7 hon (by first | exact hR5.low (by omega) | exact hR5.high (by omega))
  replace x8 := cell_only x8 hon (by first | exact hR5.low (by omega) | exact hR5.high (by omega))
  replace e0 := cell_only e0 hon (by first | exact hR5.low (by omega) | exact hR5.high (by omega))
  replace e1 := cell_only e1 hon (by first | exact hR5.low (by omega) | exact hR5.high (by omega))
  replace e2 := cell_only e2 hon (by first | exact hR5.low (by omega) | exact hR5.high (by omega))
  replace e3 := cell_only e3 hon (by first | exact hR5.low (by omega) | exact hR5.high (by omega))
  replace e4 := cell_only e4 hon (by first | exact hR5.low (by omega) | exact hR5.high (by omega))
  replace e5 := cell_only e5 hon (by first | exact hR5.low (by omega) | exact hR5.high (by omega))
  replace e6 := cell_only e6 hon (by first | exact hR5.low (by omega) | exact hR5.high (by omega))
  replace e7 := cell_only e7 hon (by first | exact hR5.low (by omega) | exact hR5.high (by omega))
  replace e8 := cell_only e8 hon (by first | exact hR5.low (by omega) | exact hR5.high (by omega))
  replace g0 := cell_only g0 hon (by first | exact hR5.low (by omega) | exact hR5.high (by omega))
  replace g1 := cell_only g1 hon (by first | exact hR5.low (by omega) | exact hR5.high (by omega))
  replace g2 := cell_only g2 hon (by first | exact hR5.low (by omega) | exact hR5.high (by omega))
  replace g3 := cell_only g3 hon (by first | exact hR5.low (by omega) | exact hR5.high (by omega))
  replace g4 := cell_only g4 hon (by first | exact hR5.low (by omega) | exact hR5.high (by omega))
  replace g5 := cell_only g5 hon (by first | exact hR5.low (by omega) | exact hR5.high (by omega))
  replace g6 := cell_only g6 hon (by first | exact hR5.low (by omega) | exact hR5.high (by omega))
  replace g7 := cell_only g7 hon (by first | exact hR5.low (by omega) | exact hR5.high (by omega))
  replace g8 := cell_only g8 hon (by first | exact hR5.low (by omega) | exact hR5.high (by omega))
  replace hat := hat.only hon (hR5.apart hRA (by omega))
  replace hls := hls.only hon (hR5.apart hRL (by omega))
  replace hw6 := hw6.only hon (hR5.apart hRw (by omega))
  replace hg := hg.only hon (hR5.apart hR6 (by omega))
  replace hF : Forms _ := fun j hj => cell_only (hF j hj) hon (hR5.low (by omega))
  replace hfg := hfg.only hon
  replace hz := belowOnly hz hon (by have := hz.size; omega) (fun b hb => by have := (hR5 b hb).1; omega)
  clear hon
  go_wp2_with fail
  refine (eqTerm_any E _ _ _ _ _ hg hw6).mono ?_
  rintro e y14 ⟨rfl, hb⟩
  replace x0 := cell_keep x0 hb
  replace x1 := cell_keep x1 hb
  replace x2 := cell_keep x2 hb
  replace x3 := cell_keep x3 hb
  replace x4 := cell_keep x4 hb
  replace x5 := cell_keep x5 hb
  replace x6 := cell_keep x6 hb
  replace x7 := cell_keep x7 hb
  replace x8 := cell_keep x8 hb
  replace e0 := cell_keep e0 hb
  replace e1 := cell_keep e1 hb
  replace e2 := cell_keep e2 hb
  replace e3 := cell_keep e3 hb
  replace e4 := cell_keep e4 hb
  replace e5 := cell_keep e5 hb
  replace e6 := cell_keep e6 hb
  replace e7 := cell_keep e7 hb
  replace e8 := cell_keep e8 hb
  replace g0 := cell_keep g0 hb
  replace g1 := cell_keep g1 hb
  replace g2 := cell_keep g2 hb
  replace g3 := cell_keep g3 hb
  replace g4 := cell_keep g4 hb
  replace g5 := cell_keep g5 hb
  replace g6 := cell_keep g6 hb
  replace g7 := cell_keep g7 hb
  replace g8 := cell_keep g8 hb
  replace hat := hat.below hb
  replace hF := hF.below hb
  replace hls := hls.below hb
  replace hw6 := hw6.below hb
  replace hg := hg.below hb
  replace hfg := hfg.below hb
  replace hz := below_trans hz hb
  clear hb
  go_wp2_with fail
  refine (markTerm_any E _ fg 1 _ _ hg hfg.1 (fun b hb => (hfg.2 b hb).2.2) rfl hnum2).mono ?_
  rintro e y15 ⟨rfl, hg, hon⟩
  replace x0 := cell_only x0 hon (by first | exact hR6.low (by omega) | exact hR6.high (by omega))
  replace x1 := cell_only x1 hon (by first | exact hR6.low (by omega) | exact hR6.high (by omega))
  replace x2 := cell_only x2 hon (by first | exact hR6.low (by omega) | exact hR6.high (by omega))
  replace x3 := cell_only x3 hon (by first | exact hR6.low (by omega) | exact hR6.high (by omega))
  replace x4 := cell_only x4 hon (by first | exact hR6.low (by omega) | exact hR6.high (by omega))
  replace x5 := cell_only x5 hon (by first | exact hR6.low (by omega) | exact hR6.high (by omega))
  replace x6 := cell_only x6 hon (by first | exact hR6.low (by omega) | exact hR6.high (by omega))
  replace x7 := cell_only x7 hon (by first | exact hR6.low (by omega) | exact hR6.high (by omega))
  replace x8 := cell_only x8 hon (by first | exact hR6.low (by omega) | exact hR6.high (by omega))
  replace e0 := cell_only e0 hon (by first | exact hR6.low (by omega) | exact hR6.high (by omega))
  replace e1 := cell_only e1 hon (by first | exact hR6.low (by omega) | exact hR6.high (by omega))
  replace e2 := cell_only e2 hon (by first | exact hR6.low (by omega) | exact hR6.high (by omega))
  replace e3 := cell_only e3 hon (by first | exact hR6.low (by omega) | exact hR6.high (by omega))
  replace e4 := cell_only e4 hon (by first | exact hR6.low (by omega) | exact hR6.high (by omega))
  replace e5 := cell_only e5 hon (by first | exact hR6.low (by omega) | exact hR6.high (by omega))
  replace e6 := cell_only e6 hon (by first | exact hR6.low (by omega) | exact hR6.high (by omega))
  replace e7 := cell_only e7 hon (by first | exact hR6.low (by omega) | exact hR6.high (by omega))
  replace e8 := cell_only e8 hon (by first | exact hR6.low (by omega) | exact hR6.high (by omega))
  replace g0 := cell_only g0 hon (by first | exact hR6.low (by omega) | exact hR6.high (by omega))
  replace g1 := cell_only g1 hon (by first | exact hR6.low (by omega) | exact hR6.high (by omega))
  replace g2 := cell_only g2 hon (by first | exact hR6.low (by omega) | exact hR6.high (by omega))
  replace g3 := cell_only g3 hon (by first | exact hR6.low (by omega) | exact hR6.high (by omega))
  replace g4 := cell_only g4 hon (by first | exact hR6.low (by omega) | exact hR6.high (by omega))
  replace g5 := cell_only g5 hon (by first | exact hR6.low (by omega) | exact hR6.high (by omega))
  replace g6 := cell_only g6 hon (by first | exact hR6.low (by omega) | exact hR6.high (by omega))
  replace g7 := cell_only g7 hon (by first | exact hR6.low (by omega) | exact hR6.high (by omega))
  replace g8 := cell_only g8 hon (by first | exact hR6.low (by omega) | exact hR6.high (by omega))
  replace hat := hat.only hon (hR6.apart hRA (by omega))
  replace hls := hls.only hon (hR6.apart hRL (by omega))
  replace hw6 := hw6.only hon (hR6.apart hRw (by omega))
  replace hF : Forms _ := fun j hj => cell_only (hF j hj) hon (hR6.low (by omega))
  replace hz := belowOnly hz hon (by have := hz.size; omega) (fun b hb => by have := (hR6 b hb).1; omega)
  clear hon hfg
  go_wp2_with fail
  refine (heldTerm_any E _ fg 1 _ _ hg rfl hnum2).mono ?_
  rintro e y16 ⟨rfl, hb⟩
  replace x0 := cell_keep x0 hb
  replace x1 := cell_keep x1 hb
  replace x2 := cell_keep x2 hb
  replace x3 := cell_keep x3 hb
  replace x4 := cell_keep x4 hb
  replace x5 := cell_keep x5 hb
  replace x6 := cell_keep x6 hb
  replace x7 := cell_keep x7 hb
  replace x8 := cell_keep x8 hb
  replace e0 := cell_keep e0 hb
  replace e1 := cell_keep e1 hb
  replace e2 := cell_keep e2 hb
  replace e3 := cell_keep e3 hb
  replace e4 := cell_keep e4 hb
  replace e5 := cell_keep e5 hb
  replace e6 := cell_keep e6 hb
  replace e7 := cell_keep e7 hb
  replace e8 := cell_keep e8 hb
  replace g0 := cell_keep g0 hb
  replace g1 := cell_keep g1 hb
  replace g2 := cell_keep g2 hb
  replace g3 := cell_keep g3 hb
  replace g4 := cell_keep g4 hb
  replace g5 := cell_keep g5 hb
  replace g6 := cell_keep g6 hb
  replace g7 := cell_keep g7 hb
  replace g8 := cell_keep g8 hb
  replace hat := hat.below hb
  replace hF := hF.below hb
  replace hls := hls.below hb
  replace hw6 := hw6.below hb
  replace hg := hg.below hb
  replace hz := below_trans hz hb
  clear hb
  go_wp2_with fail
  refine (toTerm_any t _ fp _ hat hc).mono ?_
  rintro e y17 ⟨v9, f9, rfl, h9, hf9, hb⟩
  replace x0 := cell_keep x0 hb
  replace x1 := cell_keep x1 hb
  replace x2 := cell_keep x2 hb
  replace x3 := cell_keep x3 hb
  replace x4 := cell_keep x4 hb
  replace x5 := cell_keep x5 hb
  replace x6 := cell_keep x6 hb
  replace x7 := cell_keep x7 hb
  replace x8 := cell_keep x8 hb
  replace e0 := cell_keep e0 hb
  replace e1 := cell_keep e1 hb
  replace e2 := cell_keep e2 hb
  replace e3 := cell_keep e3 hb
  replace e4 := cell_keep e4 hb
  replace e5 := cell_keep e5 hb
  replace e6 := cell_keep e6 hb
  replace e7 := cell_keep e7 hb
  replace e8 := cell_keep e8 hb
  replace g0 := cell_keep g0 hb
  replace g1 := cell_keep g1 hb
  replace g2 := cell_keep g2 hb
  replace g3 := cell_keep g3 hb
  replace g4 := cell_keep g4 hb
  replace g5 := cell_keep g5 hb
  replace g6 := cell_keep g6 hb
  replace g7 := cell_keep g7 hb
  replace g8 := cell_keep g8 hb
  replace hat := hat.below hb
  replace hF := hF.below hb
  replace hls := hls.below hb
  replace hw6 := hw6.below hb
  replace hg := hg.below hb
  replace hz := below_trans hz hb
  clear hb hf9
  go_wp2_with fail
  refine (HTS.out _ _ _ hls).mono ?_
  rintro e y17' ⟨s9, f9', rfl, h9', hf9', hb⟩
  replace h9 := h9.below hb
  obtain ⟨la9, lcap9, rfl⟩ := h9'.shape
  replace x0 := cell_keep x0 hb
  replace x1 := cell_keep x1 hb
  replace x2 := cell_keep x2 hb
  replace x3 := cell_keep x3 hb
  replace x4 := cell_keep x4 hb
  replace x5 := cell_keep x5 hb
  replace x6 := cell_keep x6 hb
  replace x7 := cell_keep x7 hb
  replace x8 := cell_keep x8 hb
  replace e0 := cell_keep e0 hb
  replace e1 := cell_keep e1 hb
  replace e2 := cell_keep e2 hb
  replace e3 := cell_keep e3 hb
  replace e4 := cell_keep e4 hb
  replace e5 := cell_keep e5 hb
  replace e6 := cell_keep e6 hb
  replace e7 := cell_keep e7 hb
  replace e8 := cell_keep e8 hb
  replace g0 := cell_keep g0 hb
  replace g1 := cell_keep g1 hb
  replace g2 := cell_keep g2 hb
  replace g3 := cell_keep g3 hb
  replace g4 := cell_keep g4 hb
  replace g5 := cell_keep g5 hb
  replace g6 := cell_keep g6 hb
  replace g7 := cell_keep g7 hb
  replace g8 := cell_keep g8 hb
  replace hat := hat.below hb
  replace hF := hF.below hb
  replace hls := hls.below hb
  replace hw6 := hw6.below hb
  replace hg := hg.below hb
  replace hz := below_trans hz hb
  clear hb hf9'
  go_wp2_with fail
  refine (HIM.out _ _ _ _ _ hF h9 h9').mono ?_
  rintro e y18 ⟨v8, f8, rfl, hw8, hf8, hb⟩
  obtain ⟨k8, nm8, num8, k18, n18, a18, c18, k28, n28, a28, c28, lb8, n38, a38, c38, rfl⟩ := hw8.agg
  have hb8a : Below y18.heap.size y18 (y18.alloc (Obj.cells #[.int .i64 k8, .string nm8, .int .i64 num8, .int .i64 k18, .slice a18 n18 c18, .int .i64 k28, .slice a28 n28 c28, .int .i64 lb8, .slice a38 n38 c38] 34)) := (Below.refl _ _).alloc (Nat.le_refl _) _
  replace hb := below_trans hb hb8a
  replace x0 := cell_keep x0 hb
  replace x1 := cell_keep x1 hb
  replace x2 := cell_keep x2 hb
  replace x3 := cell_keep x3 hb
  replace x4 := cell_keep x4 hb
  replace x5 := cell_keep x5 hb
  replace x6 := cell_keep x6 hb
  replace x7 := cell_keep x7 hb
  replace x8 := cell_keep x8 hb
  replace e0 := cell_keep e0 hb
  replace e1 := cell_keep e1 hb
  replace e2 := cell_keep e2 hb
  replace e3 := cell_keep e3 hb
  replace e4 := cell_keep e4 hb
  replace e5 := cell_keep e5 hb
  replace e6 := cell_keep e6 hb
  replace e7 := cell_keep e7 hb
  replace e8 := cell_keep e8 hb
  replace g0 := cell_keep g0 hb
  replace g1 := cell_keep g1 hb
  replace g2 := cell_keep g2 hb
  replace g3 := cell_keep g3 hb
  replace g4 := cell_keep g4 hb
  replace g5 := cell_keep g5 hb
  replace g6 := cell_keep g6 hb
  replace g7 := cell_keep g7 hb
  replace g8 := cell_keep g8 hb
  replace hat := hat.below hb
  replace hF := hF.below hb
  replace hls := hls.below hb
  replace hw6 := hw6.below hb
  replace hg := hg.below hb
  replace hz := below_trans hz hb
  replace hw8 := hw8.below hb8a
  clear hb hb8a hf8 h9 h9'
  go_wp2_with fail
  refine (eqTerm_any E _ _ _ _ _ hw8 hw6).mono ?_
  rintro e y19 ⟨rfl, hb⟩
  replace x0 := cell_keep x0 hb
  replace x1 := cell_keep x1 hb
  replace x2 := cell_keep x2 hb
  replace x3 := cell_keep x3 hb
  replace x4 := cell_keep x4 hb
  replace x5 := cell_keep x5 hb
  replace x6 := cell_keep x6 hb
  replace x7 := cell_keep x7 hb
  replace x8 := cell_keep x8 hb
  replace e0 := cell_keep e0 hb
  replace e1 := cell_keep e1 hb
  replace e2 := cell_keep e2 hb
  replace e3 := cell_keep e3 hb
  replace e4 := cell_keep e4 hb
  replace e5 := cell_keep e5 hb
  replace e6 := cell_keep e6 hb
  replace e7 := cell_keep e7 hb
  replace e8 := cell_keep e8 hb
  replace g0 := cell_keep g0 hb
  replace g1 := cell_keep g1 hb
  replace g2 := cell_keep g2 hb
  replace g3 := cell_keep g3 hb
  replace g4 := cell_keep g4 hb
  replace g5 := cell_keep g5 hb
  replace g6 := cell_keep g6 hb
  replace g7 := cell_keep g7 hb
  replace g8 := cell_keep g8 hb
  replace hat := hat.below hb
  replace hF := hF.below hb
  replace hls := hls.below hb
  replace hw6 := hw6.below hb
  replace hg := hg.below hb
  replace hz := below_trans hz hb
  clear hb
  go_wp2_with fail
  refine (heldTerm_any E _ fg 1 _ _ hg rfl hnum2).mono ?_
  rintro e y20 ⟨rfl, hb⟩
  replace hz := below_trans hz hb
  go_wp2_with fail
  go_ret
  exact ⟨rfl, hz⟩

end Go.Proofs.YtdehhobpfaaboaaDoor

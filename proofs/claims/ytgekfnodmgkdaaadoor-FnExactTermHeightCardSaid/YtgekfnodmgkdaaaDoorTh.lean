/- TermHeight, of both sides. -/
import Derived.Test.YtgekfnodmgkdaaaDoorEcJ
import Derived.Test.YtgekfnodmgkdaaaDoorC4
import Derived.Test.YtgekfnodmgkdaaaDoorCsh
import Derived.Test.YtgekfnodmgkdaaaDoorCHt
import Derived.Test.YtgekfnodmgkdaaaDoorCs6
import Derived.Test.YtgekfnodmgkdaaaDoorCi6
import Derived.Test.YtgekfnodmgkdaaaDoorRgL
namespace Go.Proofs.YtgekfnodmgkdaaaDoor
open Go.RowKit

/-- The height of the coercion of a cast. -/
def chg (ty fr : Ty) (lb : Int) : Int := hgt (cst 8 fr ty lb)

theorem chg_nn (ty fr : Ty) (lb : Int) : 0 ≤ chg ty fr lb := (hgt_bd _).1
theorem chg_le (ty fr : Ty) (lb : Int) : chg ty fr lb ≤ 1048577 := by
  have h1 := (hgt_bd (cst 8 fr ty lb)).2
  have h2 := cst_cnt 8 fr ty lb
  simp only [Nat.reduceAdd, Nat.reducePow] at h2
  unfold chg
  omega

def hStep (a : Int) : Tm → Int
  | .mk _ _ _ ty fr lb _ => max a (chg ty fr lb)

mutual
/-- The greatest height of the coercions of the casts of a term. -/
def thN : Tm → Int
  | .mk k _ _ ty fr lb ts => max (if k = 14 then chg ty fr lb else 0) (thL ts)
def thL : List Tm → Int
  | [] => 0
  | t :: ts => max (thN t) (thL ts)
end

theorem thL_nn : ∀ ts, 0 ≤ thL ts
  | [] => by simp [thL]
  | t :: ts => by have := thL_nn ts; simp only [thL]; omega

theorem thL_le_of (h : ∀ t : Tm, thN t ≤ 1048577) : ∀ ts, thL ts ≤ 1048577
  | [] => by simp [thL]
  | t :: ts => by have := thL_le_of h ts; have := h t; simp only [thL]; omega

mutual
theorem thN_le : ∀ t, thN t ≤ 1048577
  | .mk k nm num ty fr lb ts => by
    have h1 := chg_le ty fr lb
    have h2 := thLs_le ts
    simp only [thN]
    split <;> omega
theorem thLs_le : ∀ ts, thL ts ≤ 1048577
  | [] => by simp [thL]
  | t :: ts => by have := thLs_le ts; have := thN_le t; simp only [thL]; omega
end

theorem thN_nn : ∀ t, 0 ≤ thN t
  | .mk k nm num ty fr lb ts => by have := thL_nn ts; simp only [thN]; omega

theorem thL_snoc (t : Tm) : ∀ ts, thL (ts ++ [t]) = max (thL ts) (thN t)
  | [] => by have := thL_nn [t]; simp [thL] at *; omega
  | u :: ts => by simp only [List.cons_append, thL, thL_snoc t ts]; omega

mutual
theorem ecN_th : ∀ (t : Tm) (a : Int), 0 ≤ a → ecN hStep a t = max a (thN t)
  | .mk k nm num ty fr lb ts, a, ha => by
    have h0 := thL_nn ts
    by_cases h : k = 14
    · rw [ecN, if_pos h, ecL_th ts _ (by simp only [hStep]; omega)]
      simp only [thN, hStep, if_pos h]
      omega
    · rw [ecN, if_neg h, ecL_th ts _ ha]
      simp only [thN, if_neg h]
      omega
theorem ecL_th : ∀ (ts : List Tm) (a : Int), 0 ≤ a → ecL hStep a ts = max a (thL ts)
  | [], a, ha => by simp only [ecL, thL]; omega
  | t :: ts, a, ha => by
    have h1 := ecN_th t a ha
    rw [ecL, h1, ecL_th ts _ (by omega)]
    simp only [thL]
    omega
end

theorem own4_prt {nm : ByteArray} {num : Int} {ty fr : Ty} {lb : Int} (h : own4 nm num ty fr lb = true) : isLb lb = true ∧ shp 4 ty = true ∧ shp 4 fr = true ∧ cons fr ty = true := by
  simp only [own4, Bool.and_eq_true] at h
  exact ⟨h.1.1.1.2, h.1.1.2, h.1.2, h.2⟩

def thV (t : Tm) : Int := if vldC t then thN t else 0

def L7C (t : Tm) : Prop := ∀ (d : Nat) (v : Value) (fp : List Nat) (w : World), shpC d t = true → t.At w v fp →
  Calls Tryd.prog 66 #[v] w fun e w' => e = .returned (.int .i64 (thN t)) ∧ Below w.heap.size w w'

set_option maxRecDepth 100000 in
set_option maxHeartbeats 4000000 in
theorem l7Casts_of (k : Int) (nm : ByteArray) (num : Int) (ty fr : Ty) (lb : Int) (ts : List Tm) (ih : ∀ t ∈ ts, L7C t) : L7C (.mk k nm num ty fr lb ts) := by
  intro d v fp w hsh hat
  obtain ⟨d', hkids, h14⟩ := shpC_node hsh
  have HIH := hid (fun (t : Tm) (ht : t ∈ ts) (v : Value) (fp : List Nat) (w : World) (h : t.At w v fp) => ih t ht d' v fp w (hkids t ht) h)
  clear ih hsh hkids
  obtain ⟨k1, n1, a1, c1, k2, n2, a2, c2, a3, c3, f1, f2, f3, rfl, hnm, ht1, ht2, rfl, hs⟩ := hat.parts
  obtain ⟨a, cap, hss, hc, hm, hget⟩ := hs.open
  cases hss
  have HG := hid hget
  have hb0 : Below w.heap.size w (w.alloc (Obj.cells #[.int .i64 k, .string nm, .int .i64 num, .int .i64 k1, .slice a1 n1 c1, .int .i64 k2, .slice a2 n2 c2, .int .i64 lb, .slice a3 ts.length c3] 35)) := (Below.refl _ _).alloc (Nat.le_refl _) _
  have HB0 := hid hb0
  have HO := hid h14
  have HT1 := hid (ht1.below hb0)
  have HT2 := hid (ht2.below hb0)
  have HE := hid (show thN (.mk k nm num ty fr lb ts) = max (if k = 14 then chg ty fr lb else 0) (thL ts) by rw [thN])
  obtain ⟨x0, x1, x2, x3, x4, x5, x6, x7, x8⟩ := box9 (Below.refl ((w.alloc (Obj.cells #[.int .i64 k, .string nm, .int .i64 num, .int .i64 k1, .slice a1 n1 c1, .int .i64 k2, .slice a2 n2 c2, .int .i64 lb, .slice a3 ts.length c3] 35))).heap.size (w.alloc (Obj.cells #[.int .i64 k, .string nm, .int .i64 num, .int .i64 k1, .slice a1 n1 c1, .int .i64 k2, .slice a2 n2 c2, .int .i64 lb, .slice a3 ts.length c3] 35)))
  clear hget hs hat ht1 ht2 hb0 h14 hnm
  by_cases hk : k = 14
  · subst hk
    obtain ⟨hlb, hty, hfr, hcn⟩ := own4_prt (HO.out rfl)
    have hl := isLb_rng hlb
    have HX := hid (l6Cast_any 8 fr ty lb 4 _ _ _ _ (w.alloc (Obj.cells #[.int .i64 14, .string nm, .int .i64 num, .int .i64 k1, .slice a1 n1 c1, .int .i64 k2, .slice a2 n2 c2, .int .i64 lb, .slice a3 ts.length c3] 35)) (.inl (by omega)) (by omega) hfr hty hcn hl.1 hl.2 HT2.out HT1.out)
    have HH := hid (fun (v : Value) (fp : List Nat) (w : World) (h : (cst 8 fr ty lb).At w v fp) => l6Height_any 8 (cst 8 fr ty lb) v fp w (shpK_cst 8 fr ty lb 4 (.inl (by omega)) hfr hty hcn hlb).1 h (by have := cst_cnt 8 fr ty lb; simp only [Nat.reduceAdd, Nat.reducePow] at this; omega))
    obtain ⟨c0, hc0⟩ : ∃ c0, c0 = chg ty fr lb := ⟨_, rfl⟩
    have HC0 := hid (show 0 ≤ c0 ∧ c0 ≤ 1048577 by rw [hc0]; exact ⟨chg_nn _ _ _, chg_le _ _ _⟩)
    rw [if_pos rfl, ← hc0] at HE
    have HHE := hid (show hgt (cst 8 fr ty lb) = c0 from hc0.symm)
    clear hlb hty hfr hcn hl hc0 HO HT1 HT2
    go_enter Tryd.func66, Tryd.ntmps66
    go_wp2_with fail
    refine HX.out.mono ?_
    rintro e w1 ⟨v1, r1, rfl, hat1, -, hb1⟩
    obtain ⟨p0, p1, p2, pn, pa, pc, rfl⟩ := hat1.agg
    have HBB := hid hb1
    clear hb1
    go_wp2_with fail
    refine (HH.out _ _ _ hat1).mono ?_
    rw [HHE.out]
    rintro e w2 ⟨rfl, hb2⟩
    have HBS := hid (below_trans HBB.out hb2)
    clear hb2 hat1 x0 x1 x2 x3 x4 x5 x6 x7 x8
    go_wp2_with fail
    go_loopw [3, 4, 5] (fun b i _ wr => ∃ (j : Nat) (c : Int), j ≤ ts.length ∧ i = .int .i64 j ∧ b = .int .i64 c ∧ c = max c0 (thL (ts.take j)) ∧ 0 ≤ c ∧ c ≤ 1048577 ∧ Below ((w.alloc (Obj.cells #[.int .i64 14, .string nm, .int .i64 num, .int .i64 k1, .slice a1 n1 c1, .int .i64 k2, .slice a2 n2 c2, .int .i64 lb, .slice a3 ts.length c3] 35))).heap.size (w.alloc (Obj.cells #[.int .i64 14, .string nm, .int .i64 num, .int .i64 k1, .slice a1 n1 c1, .int .i64 k2, .slice a2 n2 c2, .int .i64 lb, .slice a3 ts.length c3] 35)) wr) (fun _ i _ _ => ts.length - (intOf i).toNat)
    case atStart => exact ⟨0, c0, Nat.zero_le _, rfl, rfl, by simp only [List.take_zero, thL]; have := HC0.out.1; omega, HC0.out.1, HC0.out.2, HBS.out⟩
    case round =>
      obtain ⟨j, c, hj, rfl, rfl, hcc, hc0, hc1, hb⟩ := hrel
      have HC := hid hcc
      clear hcc
      obtain ⟨x0, x1, x2, x3, x4, x5, x6, x7, x8⟩ := box9 hb
      have hbw : Below w.heap.size w wr := below_trans HB0.out hb
      by_cases hlk : j < ts.length
      · obtain ⟨b, o, q0, q1, q2, q3, q4, q5, q6, q7, q8, q9, q10, q11, q12, q13, q14, g1, hab, hblt, e0, e1, e2, e3, e4, e5, e6, e7, e8, hat, -⟩ := HG.out j hlk
        subst hab
        replace e0 := cell_keep e0 hbw
        replace e1 := cell_keep e1 hbw
        replace e2 := cell_keep e2 hbw
        replace e3 := cell_keep e3 hbw
        replace e4 := cell_keep e4 hbw
        replace e5 := cell_keep e5 hbw
        replace e6 := cell_keep e6 hbw
        replace e7 := cell_keep e7 hbw
        replace e8 := cell_keep e8 hbw
        have HIJ := hid (fun (w' : World) (h : Below w.heap.size w w') => HIH.out _ (List.getElem_mem hlk) _ _ w' (hat.below h))
        have hbd := thN_le ts[j]
        have HST := hid (show max c (thN ts[j]) = max c0 (thL (ts.take (j + 1))) by rw [List.take_succ_eq_append_getElem hlk, thL_snoc, HC.out]; omega)
        generalize thN ts[j] = r at *
        clear hat hblt
        go_wp2_with fail
        refine (HIJ.out _ hbw).mono ?_
        rintro e w1 ⟨rfl, hb1⟩
        have hbb := hb.trans (hb1.mono hb.size)
        clear hb hb1 hbw e0 e1 e2 e3 e4 e5 e6 e7 e8
        by_cases hr : c < r
        · go_wp2_with fail
          go_roundw
          case rel => exact ⟨j + 1, r, by omega, by go_num, rfl, by rw [← HST.out]; omega, by omega, by omega, hbb⟩
          case measure => simp [intOf]; omega
        · go_wp2_with fail
          go_roundw
          case rel => exact ⟨j + 1, c, by omega, by go_num, rfl, by rw [← HST.out]; omega, by omega, by omega, hbb⟩
          case measure => simp [intOf]; omega
      · have hcl : c = max c0 (thL ts) := by rw [HC.out, List.take_of_length_le (by omega)]
        have HCL := hid hcl
        clear hcl
        go_wp2_with fail
        go_ret
        exact ⟨ret_i (by rw [HE.out, HCL.out]), hbw⟩
  · have hk' : (k == 14) = false := by simpa using hk
    rw [if_neg hk] at HE
    obtain ⟨c0, hc0⟩ : ∃ c0 : Int, c0 = 0 := ⟨_, rfl⟩
    have HC0 := hid (show 0 ≤ c0 ∧ c0 ≤ 1048577 by omega)
    have HBS := hid (Below.refl ((w.alloc (Obj.cells #[.int .i64 k, .string nm, .int .i64 num, .int .i64 k1, .slice a1 n1 c1, .int .i64 k2, .slice a2 n2 c2, .int .i64 lb, .slice a3 ts.length c3] 35))).heap.size (w.alloc (Obj.cells #[.int .i64 k, .string nm, .int .i64 num, .int .i64 k1, .slice a1 n1 c1, .int .i64 k2, .slice a2 n2 c2, .int .i64 lb, .slice a3 ts.length c3] 35)))
    rw [← hc0] at HE
    have hcz := hc0
    clear HO HT1 HT2 hc0
    go_enter Tryd.func66, Tryd.ntmps66
    go_wp2_with fail
    clear x0 x1 x2 x3 x4 x5 x6 x7 x8
    go_loopw [3, 4, 5] (fun b i _ wr => ∃ (j : Nat) (c : Int), j ≤ ts.length ∧ i = .int .i64 j ∧ b = .int .i64 c ∧ c = max c0 (thL (ts.take j)) ∧ 0 ≤ c ∧ c ≤ 1048577 ∧ Below ((w.alloc (Obj.cells #[.int .i64 k, .string nm, .int .i64 num, .int .i64 k1, .slice a1 n1 c1, .int .i64 k2, .slice a2 n2 c2, .int .i64 lb, .slice a3 ts.length c3] 35))).heap.size (w.alloc (Obj.cells #[.int .i64 k, .string nm, .int .i64 num, .int .i64 k1, .slice a1 n1 c1, .int .i64 k2, .slice a2 n2 c2, .int .i64 lb, .slice a3 ts.length c3] 35)) wr) (fun _ i _ _ => ts.length - (intOf i).toNat)
    case atStart => exact ⟨0, c0, Nat.zero_le _, rfl, by rw [hcz], by simp only [List.take_zero, thL]; have := HC0.out.1; omega, HC0.out.1, HC0.out.2, HBS.out⟩
    case round =>
      obtain ⟨j, c, hj, rfl, rfl, hcc, hc0, hc1, hb⟩ := hrel
      have HC := hid hcc
      clear hcc
      obtain ⟨x0, x1, x2, x3, x4, x5, x6, x7, x8⟩ := box9 hb
      have hbw : Below w.heap.size w wr := below_trans HB0.out hb
      by_cases hlk : j < ts.length
      · obtain ⟨b, o, q0, q1, q2, q3, q4, q5, q6, q7, q8, q9, q10, q11, q12, q13, q14, g1, hab, hblt, e0, e1, e2, e3, e4, e5, e6, e7, e8, hat, -⟩ := HG.out j hlk
        subst hab
        replace e0 := cell_keep e0 hbw
        replace e1 := cell_keep e1 hbw
        replace e2 := cell_keep e2 hbw
        replace e3 := cell_keep e3 hbw
        replace e4 := cell_keep e4 hbw
        replace e5 := cell_keep e5 hbw
        replace e6 := cell_keep e6 hbw
        replace e7 := cell_keep e7 hbw
        replace e8 := cell_keep e8 hbw
        have HIJ := hid (fun (w' : World) (h : Below w.heap.size w w') => HIH.out _ (List.getElem_mem hlk) _ _ w' (hat.below h))
        have hbd := thN_le ts[j]
        have HST := hid (show max c (thN ts[j]) = max c0 (thL (ts.take (j + 1))) by rw [List.take_succ_eq_append_getElem hlk, thL_snoc, HC.out]; omega)
        generalize thN ts[j] = r at *
        clear hat hblt
        go_wp2_with fail
        refine (HIJ.out _ hbw).mono ?_
        rintro e w1 ⟨rfl, hb1⟩
        have hbb := hb.trans (hb1.mono hb.size)
        clear hb hb1 hbw e0 e1 e2 e3 e4 e5 e6 e7 e8
        by_cases hr : c < r
        · go_wp2_with fail
          go_roundw
          case rel => exact ⟨j + 1, r, by omega, by go_num, rfl, by rw [← HST.out]; omega, by omega, by omega, hbb⟩
          case measure => simp [intOf]; omega
        · go_wp2_with fail
          go_roundw
          case rel => exact ⟨j + 1, c, by omega, by go_num, rfl, by rw [← HST.out]; omega, by omega, by omega, hbb⟩
          case measure => simp [intOf]; omega
      · have hcl : c = max c0 (thL ts) := by rw [HC.out, List.take_of_length_le (by omega)]
        have HCL := hid hcl
        clear hcl
        go_wp2_with fail
        go_ret
        exact ⟨ret_i (by rw [HE.out, HCL.out]), hbw⟩

theorem l7Casts_any : ∀ t : Tm, L7C t := Tm.ind l7Casts_of

set_option maxHeartbeats 1000000 in
theorem specTermHeight (t : Tm) (v : Value) (fp : List Nat) (w : World) (hsz : t.sz ≤ 1048576) (hat : t.At w v fp) :
    Calls Tryd.prog 22 #[v] w fun e w' => e = .returned (.int .i64 (thV t)) ∧ Below w.heap.size w w' := by
  have hat0 := hat
  obtain ⟨k, nm, num, k1, n1, a1, c1, k2, n2, a2, c2, lb, n3, a3, c3, rfl⟩ := hat.agg
  have hb0 : Below w.heap.size w (w.alloc (Obj.cells #[.int .i64 k, .string nm, .int .i64 num, .int .i64 k1, .slice a1 n1 c1, .int .i64 k2, .slice a2 n2 c2, .int .i64 lb, .slice a3 n3 c3] 35)) := (Below.refl _ _).alloc (Nat.le_refl _) _
  have HCV := hid (specCastValid t _ _ _ hsz (hat0.below hb0))
  have HV := hid (fun (w' : World) (h : Below w.heap.size w w') (hv : vldC t = true) => l7Casts_any t 40 _ _ w' (by unfold vldC at hv; simp only [Bool.and_eq_true] at hv; exact hv.1) (hat0.below h))
  have HE := hid (show thV t = if vldC t then thN t else 0 from rfl)
  have HB := hid hb0
  generalize vldC t = cv at *
  generalize thN t = r at *
  generalize thV t = R at *
  clear hat hat0 hb0
  go_enter Tryd.func22, Tryd.ntmps22
  go_wp2_with fail
  refine HCV.out.mono ?_
  rintro e w1 ⟨rfl, hb1⟩
  obtain ⟨z0, z1, z2, z3, z4, z5, z6, z7, z8⟩ := box9 hb1
  have HB1 := hid (below_trans HB.out hb1)
  cases cv
  · go_wp2_with fail
    go_ret
    exact ⟨ret_i (by rw [HE.out]; rfl), HB1.out⟩
  · go_wp2_with fail
    refine (HV.out _ HB1.out (by simp)).mono ?_
    rintro e w2 ⟨rfl, hb2⟩
    go_wp2_with fail
    go_ret
    exact ⟨ret_i (by rw [HE.out]; rfl), below_trans HB1.out hb2⟩

theorem callOk_th : CallOkT 69 := fun _ _ => by kernel_rfl

/-- The variable of block M holds the height so far. -/
def HgAt (M B : Nat) (h : Int) (v : Value) (w : World) : Prop := w.heap[M]? = some (.cells #[.int .i64 h] 3 (0, 0)) ∧ v = .int .i64 0 ∧ M < B ∧ 0 ≤ h ∧ h ≤ 1048577

theorem hg_close {w w2 : World} {M B : Nat} {x y : Int} (hO : w2.heap[M]? = some (.cells #[.int .i64 x] 3 (0, 0))) (hb : Below w.heap.size w w2) (hMB : M < B) (h0 : 0 ≤ y) (h1 : y ≤ 1048577) :
    HgAt M B y (.int .i64 0) (w2.setCell ⟨M, 0, none⟩ (.int .i64 y)) ∧ Lr M w (w2.setCell ⟨M, 0, none⟩ (.int .i64 y)) (.int .i64 0) (.int .i64 0) := by
  refine ⟨⟨heap_setCell_at hO _, rfl, hMB, h0, h1⟩, ⟨⟨hb.os, hb.tape, hb.output, by rw [size_setCell]; exact hb.size⟩, fun k hk hkM _ => ?_, .inl rfl⟩⟩
  rw [Below.heap_setCell _ _ _ _ hkM, hb.block k hk]

set_option maxRecDepth 100000 in
set_option maxHeartbeats 4000000 in
theorem visitTh (M B : Nat) : VisC 69 #[.pointer (some ⟨M, 0, none⟩)] M B (HgAt M B) (fun _ => 0) hStep := by
  intro h v nm num ty fr lb ts k1 n1 a1 c1 k2 n2 a2 c2 a3 c3 fp w hS hat hown hfp hBw _
  obtain ⟨hO, rfl, hMB, hh0, hh1⟩ := hS
  obtain ⟨hlb, hty, hfr, hcn⟩ := own4_prt hown
  have hl := isLb_rng hlb
  obtain ⟨k1', n1', a1', c1', k2', n2', a2', c2', a3', c3', f1, f2, f3, e, hnm, ht1, ht2, rfl, hs⟩ := hat.parts
  simp only [Value.agg.injEq, Array.mk.injEq, List.cons.injEq, Value.int.injEq, Value.slice.injEq, and_true, true_and] at e
  obtain ⟨rfl, ⟨rfl, rfl, rfl⟩, rfl, ⟨rfl, rfl, rfl⟩, rfl, rfl⟩ := e
  have hb0 : Below w.heap.size w (w.alloc (Obj.cells #[.int .i64 14, .string nm, .int .i64 num, .int .i64 k1, .slice a1 n1 c1, .int .i64 k2, .slice a2 n2 c2, .int .i64 lb, .slice a3 ts.length c3] 35)) := (Below.refl _ _).alloc (Nat.le_refl _) _
  have HT1 := hid (ht1.below hb0)
  have HT2 := hid (ht2.below hb0)
  have HP := hid (And.intro hfr (And.intro hty (And.intro hcn (And.intro hl.1 hl.2))))
  have HB0 := hid hb0
  have hMlt : M < w.heap.size := by omega
  have HO1 := hid (blk hO hb0)
  obtain ⟨x0, x1, x2, x3, x4, x5, x6, x7, x8⟩ := box9 (Below.refl ((w.alloc (Obj.cells #[.int .i64 14, .string nm, .int .i64 num, .int .i64 k1, .slice a1 n1 c1, .int .i64 k2, .slice a2 n2 c2, .int .i64 lb, .slice a3 ts.length c3] 35))).heap.size (w.alloc (Obj.cells #[.int .i64 14, .string nm, .int .i64 num, .int .i64 k1, .slice a1 n1 c1, .int .i64 k2, .slice a2 n2 c2, .int .i64 lb, .slice a3 ts.length c3] 35)))
  have yM : ((w.alloc (Obj.cells #[.int .i64 14, .string nm, .int .i64 num, .int .i64 k1, .slice a1 n1 c1, .int .i64 k2, .slice a2 n2 c2, .int .i64 lb, .slice a3 ts.length c3] 35))).cell? ⟨M, 0, none⟩ = some (.int .i64 h) := by rw [cell_of_block HO1.out]; rfl
  have HHT := hid (fun (v : Value) (fp : List Nat) (w : World) (hx : (cst 8 fr ty lb).At w v fp) => heightOf_any (cst 8 fr ty lb) v fp w hx (by have := cst_cnt 8 fr ty lb; simp only [Nat.reduceAdd, Nat.reducePow] at this; omega))
  obtain ⟨r, hr⟩ : ∃ r, r = chg ty fr lb := ⟨_, rfl⟩
  have HR := hid (show hgt (cst 8 fr ty lb) = r from hr.symm)
  have HRB := hid (show 0 ≤ r ∧ r ≤ 1048577 by rw [hr]; exact ⟨chg_nn _ _ _, chg_le _ _ _⟩)
  have HST := hid (show hStep h (.mk 14 nm num ty fr lb ts) = max h r by rw [hr]; rfl)
  rw [HST.out]
  clear hat hown hfp hlb hty hfr hcn hl ht1 ht2 hs hnm hr hO hb0 HST
  have HS0 := hid (show ∀ w', Below ((w.alloc (Obj.cells #[.int .i64 14, .string nm, .int .i64 num, .int .i64 k1, .slice a1 n1 c1, .int .i64 k2, .slice a2 n2 c2, .int .i64 lb, .slice a3 ts.length c3] 35))).heap.size (w.alloc (Obj.cells #[.int .i64 14, .string nm, .int .i64 num, .int .i64 k1, .slice a1 n1 c1, .int .i64 k2, .slice a2 n2 c2, .int .i64 lb, .slice a3 ts.length c3] 35)) w' → (fun w' => w'.cell? ⟨w.heap.size, 0, none⟩ = some (.int .i64 14) ∧ w'.cell? ⟨w.heap.size, 1, none⟩ = some (.string nm) ∧ w'.cell? ⟨w.heap.size, 2, none⟩ = some (.int .i64 num) ∧ w'.cell? ⟨w.heap.size, 3, none⟩ = some (.int .i64 k1) ∧ w'.cell? ⟨w.heap.size, 4, none⟩ = some (.slice a1 n1 c1) ∧ w'.cell? ⟨w.heap.size, 5, none⟩ = some (.int .i64 k2) ∧ w'.cell? ⟨w.heap.size, 6, none⟩ = some (.slice a2 n2 c2) ∧ w'.cell? ⟨w.heap.size, 7, none⟩ = some (.int .i64 lb) ∧ w'.cell? ⟨w.heap.size, 8, none⟩ = some (.slice a3 ts.length c3) ∧ w'.cell? ⟨M, 0, none⟩ = some (.int .i64 h)) w' from fun w' h => ⟨cell_keep x0 h, cell_keep x1 h, cell_keep x2 h, cell_keep x3 h, cell_keep x4 h, cell_keep x5 h, cell_keep x6 h, cell_keep x7 h, cell_keep x8 h, cell_keep yM h⟩)
  by_cases hhr : h < r
  · go_enter Tryd.func69, Tryd.ntmps69
    go_wp2_with fail
    refine regionL (s := 10) (S0 := (fun w' => w'.cell? ⟨w.heap.size, 0, none⟩ = some (.int .i64 14) ∧ w'.cell? ⟨w.heap.size, 1, none⟩ = some (.string nm) ∧ w'.cell? ⟨w.heap.size, 2, none⟩ = some (.int .i64 num) ∧ w'.cell? ⟨w.heap.size, 3, none⟩ = some (.int .i64 k1) ∧ w'.cell? ⟨w.heap.size, 4, none⟩ = some (.slice a1 n1 c1) ∧ w'.cell? ⟨w.heap.size, 5, none⟩ = some (.int .i64 k2) ∧ w'.cell? ⟨w.heap.size, 6, none⟩ = some (.slice a2 n2 c2) ∧ w'.cell? ⟨w.heap.size, 7, none⟩ = some (.int .i64 lb) ∧ w'.cell? ⟨w.heap.size, 8, none⟩ = some (.slice a3 ts.length c3) ∧ w'.cell? ⟨M, 0, none⟩ = some (.int .i64 h))) (S1 := (fun _ => True)) (by kernel_rfl) (HS0.out _ (below_drew _)) (trivial) (fun hS0 => ?_)
    refine takeL0 (i := 0) (v := ?vpos1) rfl rfl (by kernel_rfl) (by kernel_rfl) (by kernel_rfl) (by decide) (by kernel_rfl) (by kernel_rfl) (fun _ _ _ h => h) (Or.inl ⟨by rfl, ?hypos1⟩) (by assumption) ?_
    case hypos1 => (intro w hSw; (try dsimp only at hSw); go_simp; (try with_reducible rfl))
    try simp only [Act.put, List.setIfInBounds_toArray, List.set_cons_zero, List.set_cons_succ]
    refine takeL0 (i := 1) (v := ?vpos2) rfl rfl (by kernel_rfl) (by kernel_rfl) (by kernel_rfl) (by decide) (by kernel_rfl) (by kernel_rfl) (fun _ _ _ h => h) (Or.inl ⟨by rfl, ?hypos2⟩) (by assumption) ?_
    case hypos2 => (intro w hSw; (try dsimp only at hSw); go_simp; (try with_reducible rfl))
    try simp only [Act.put, List.setIfInBounds_toArray, List.set_cons_zero, List.set_cons_succ]
    refine takeL0 (i := 2) (v := ?vpos3) rfl rfl (by kernel_rfl) (by kernel_rfl) (by kernel_rfl) (by decide) (by kernel_rfl) (by kernel_rfl) (fun _ _ _ h => h) (Or.inl ⟨by rfl, ?hypos3⟩) (by assumption) ?_
    case hypos3 => (intro w hSw; (try dsimp only at hSw); go_simp; (try with_reducible rfl))
    try simp only [Act.put, List.setIfInBounds_toArray, List.set_cons_zero, List.set_cons_succ]
    refine takeL0 (i := 3) (v := ?vpos4) rfl rfl (by kernel_rfl) (by kernel_rfl) (by kernel_rfl) (by decide) (by kernel_rfl) (by kernel_rfl) (fun _ _ _ h => h) (Or.inl ⟨by rfl, ?hypos4⟩) (by assumption) ?_
    case hypos4 => (intro w hSw; (try dsimp only at hSw); go_simp; (try with_reducible rfl))
    try simp only [Act.put, List.setIfInBounds_toArray, List.set_cons_zero, List.set_cons_succ]
    refine takeL0 (i := 4) (v := ?vpos5) rfl rfl (by kernel_rfl) (by kernel_rfl) (by kernel_rfl) (by decide) (by kernel_rfl) (by kernel_rfl) (fun _ _ _ h => h) (Or.inl ⟨by rfl, ?hypos5⟩) (by assumption) ?_
    case hypos5 => (intro w hSw; (try dsimp only at hSw); go_simp; (try with_reducible rfl))
    try simp only [Act.put, List.setIfInBounds_toArray, List.set_cons_zero, List.set_cons_succ]
    refine takeL0 (i := 5) (v := ?vpos6) rfl rfl (by kernel_rfl) (by kernel_rfl) (by kernel_rfl) (by decide) (by kernel_rfl) (by kernel_rfl) (fun _ _ _ h => h) (Or.inl ⟨by rfl, ?hypos6⟩) (by assumption) ?_
    case hypos6 => (intro w hSw; (try dsimp only at hSw); go_simp; (try with_reducible rfl))
    try simp only [Act.put, List.setIfInBounds_toArray, List.set_cons_zero, List.set_cons_succ]
    refine takeL0 (i := 6) (v := ?vpos7) rfl rfl (by kernel_rfl) (by kernel_rfl) (by kernel_rfl) (by decide) (by kernel_rfl) (by kernel_rfl) (fun _ _ _ h => h) (Or.inl ⟨by rfl, ?hypos7⟩) (by assumption) ?_
    case hypos7 => (intro w hSw; (try dsimp only at hSw); go_simp; (try with_reducible rfl))
    try simp only [Act.put, List.setIfInBounds_toArray, List.set_cons_zero, List.set_cons_succ]
    refine readyL (rs := [7]) (by kernel_rfl) (by simp) ?_
    refine AllReadyL.cons rfl (fun K hK => ?_) AllReadyL.nil
    go_simp
    refine (coerce_from (coerce_any 8) (W0 := (w.alloc (Obj.cells #[.int .i64 14, .string nm, .int .i64 num, .int .i64 k1, .slice a1 n1 c1, .int .i64 k2, .slice a2 n2 c2, .int .i64 lb, .slice a3 ts.length c3] 35))) (below_drew _) (d := 4) (.inl (by omega)) (by omega) HP.out.1 HP.out.2.1 HP.out.2.2.1 HP.out.2.2.2.1 HP.out.2.2.2.2 HT2.out HT1.out).mono ?_
    rintro e w1 ⟨⟨v1, r1, rfl, hat1, -, hb1⟩, hU⟩
    obtain ⟨p0, p1, p2, pn, pa, pc, rfl⟩ := hat1.agg
    have hB1 := below_trans hU hb1
    refine hK.out _ _ ?_ (fun hS1 => ?_)
    · exact ⟨trivial, fun _ => HS0.out _ hB1⟩
    clear hK K hS0
    try simp only [Act.put, List.setIfInBounds_toArray, List.set_cons_zero, List.set_cons_succ]
    refine readyL (rs := [8]) (by kernel_rfl) (by simp) ?_
    refine AllReadyL.cons rfl (fun K hK => ?_) AllReadyL.nil
    go_simp
    refine (HHT.out _ _ _ hat1).mono ?_
    rw [HR.out]
    rintro e w2 ⟨rfl, hb2⟩
    have hB2 := below_trans hB1 hb2
    refine hK.out _ _ ?_ (fun hS2 => ?_)
    · exact ⟨trivial, fun _ => HS0.out _ hB2⟩
    clear hK K hS1
    try simp only [Act.put, List.setIfInBounds_toArray, List.set_cons_zero, List.set_cons_succ]
    refine readyL (rs := [9]) (by kernel_rfl) (by simp) ?_
    refine AllReadyL.cons rfl (fun K hK => ?_) AllReadyL.nil
    go_simp
    refine hK.out _ _ ?_ (fun hS3 => ?_)
    · exact ⟨trivial, fun _ => HS0.out _ hB2⟩
    clear hK K hS2
    try simp only [Act.put, List.setIfInBounds_toArray, List.set_cons_zero, List.set_cons_succ]
    refine readyL (rs := [10]) (by kernel_rfl) (by simp) ?_
    refine AllReadyL.cons rfl (fun K hK => ?_) AllReadyL.nil
    have hO2 := (hB2.block _ (lt_of_block HO1.out)).trans HO1.out
    have zM := (cell_of_block (o := 0) hO2).trans (show _ = some (.int .i64 h) from rfl)
    have zf := fun o => frozen_of_block (o := o) hO2
    go_simp
    refine hK.out _ _ ?_ (fun hS4 => ?_)
    · exact ⟨trivial, fun h => absurd (h.symm.trans (show _ = true by kernel_rfl)) (by decide)⟩
    clear hK K hS3
    try simp only [Act.put, List.setIfInBounds_toArray, List.set_cons_zero, List.set_cons_succ]
    refine doneL (by kernel_rfl) ?_ _
    have HF := hid (hg_close (y := r) hO2 (below_trans HB0.out hB2) hMB (by have := HRB.out; omega) (by have := HRB.out; omega))
    have hmx : max h r = r := by omega
    clear zM zf hO2
    go_wp2_with fail
    first | go_ret | go_end0
    exact ⟨⟨_, rfl⟩, _, by first | exact HF.out.1 | (rw [hmx]; exact HF.out.1), HF.out.2⟩
  · go_enter Tryd.func69, Tryd.ntmps69
    go_wp2_with fail
    refine regionL (s := 10) (S0 := (fun w' => w'.cell? ⟨w.heap.size, 0, none⟩ = some (.int .i64 14) ∧ w'.cell? ⟨w.heap.size, 1, none⟩ = some (.string nm) ∧ w'.cell? ⟨w.heap.size, 2, none⟩ = some (.int .i64 num) ∧ w'.cell? ⟨w.heap.size, 3, none⟩ = some (.int .i64 k1) ∧ w'.cell? ⟨w.heap.size, 4, none⟩ = some (.slice a1 n1 c1) ∧ w'.cell? ⟨w.heap.size, 5, none⟩ = some (.int .i64 k2) ∧ w'.cell? ⟨w.heap.size, 6, none⟩ = some (.slice a2 n2 c2) ∧ w'.cell? ⟨w.heap.size, 7, none⟩ = some (.int .i64 lb) ∧ w'.cell? ⟨w.heap.size, 8, none⟩ = some (.slice a3 ts.length c3) ∧ w'.cell? ⟨M, 0, none⟩ = some (.int .i64 h))) (S1 := (fun _ => True)) (by kernel_rfl) (HS0.out _ (below_drew _)) (trivial) (fun hS0 => ?_)
    refine takeL0 (i := 0) (v := ?vneg1) rfl rfl (by kernel_rfl) (by kernel_rfl) (by kernel_rfl) (by decide) (by kernel_rfl) (by kernel_rfl) (fun _ _ _ h => h) (Or.inl ⟨by rfl, ?hyneg1⟩) (by assumption) ?_
    case hyneg1 => (intro w hSw; (try dsimp only at hSw); go_simp; (try with_reducible rfl))
    try simp only [Act.put, List.setIfInBounds_toArray, List.set_cons_zero, List.set_cons_succ]
    refine takeL0 (i := 1) (v := ?vneg2) rfl rfl (by kernel_rfl) (by kernel_rfl) (by kernel_rfl) (by decide) (by kernel_rfl) (by kernel_rfl) (fun _ _ _ h => h) (Or.inl ⟨by rfl, ?hyneg2⟩) (by assumption) ?_
    case hyneg2 => (intro w hSw; (try dsimp only at hSw); go_simp; (try with_reducible rfl))
    try simp only [Act.put, List.setIfInBounds_toArray, List.set_cons_zero, List.set_cons_succ]
    refine takeL0 (i := 2) (v := ?vneg3) rfl rfl (by kernel_rfl) (by kernel_rfl) (by kernel_rfl) (by decide) (by kernel_rfl) (by kernel_rfl) (fun _ _ _ h => h) (Or.inl ⟨by rfl, ?hyneg3⟩) (by assumption) ?_
    case hyneg3 => (intro w hSw; (try dsimp only at hSw); go_simp; (try with_reducible rfl))
    try simp only [Act.put, List.setIfInBounds_toArray, List.set_cons_zero, List.set_cons_succ]
    refine takeL0 (i := 3) (v := ?vneg4) rfl rfl (by kernel_rfl) (by kernel_rfl) (by kernel_rfl) (by decide) (by kernel_rfl) (by kernel_rfl) (fun _ _ _ h => h) (Or.inl ⟨by rfl, ?hyneg4⟩) (by assumption) ?_
    case hyneg4 => (intro w hSw; (try dsimp only at hSw); go_simp; (try with_reducible rfl))
    try simp only [Act.put, List.setIfInBounds_toArray, List.set_cons_zero, List.set_cons_succ]
    refine takeL0 (i := 4) (v := ?vneg5) rfl rfl (by kernel_rfl) (by kernel_rfl) (by kernel_rfl) (by decide) (by kernel_rfl) (by kernel_rfl) (fun _ _ _ h => h) (Or.inl ⟨by rfl, ?hyneg5⟩) (by assumption) ?_
    case hyneg5 => (intro w hSw; (try dsimp only at hSw); go_simp; (try with_reducible rfl))
    try simp only [Act.put, List.setIfInBounds_toArray, List.set_cons_zero, List.set_cons_succ]
    refine takeL0 (i := 5) (v := ?vneg6) rfl rfl (by kernel_rfl) (by kernel_rfl) (by kernel_rfl) (by decide) (by kernel_rfl) (by kernel_rfl) (fun _ _ _ h => h) (Or.inl ⟨by rfl, ?hyneg6⟩) (by assumption) ?_
    case hyneg6 => (intro w hSw; (try dsimp only at hSw); go_simp; (try with_reducible rfl))
    try simp only [Act.put, List.setIfInBounds_toArray, List.set_cons_zero, List.set_cons_succ]
    refine takeL0 (i := 6) (v := ?vneg7) rfl rfl (by kernel_rfl) (by kernel_rfl) (by kernel_rfl) (by decide) (by kernel_rfl) (by kernel_rfl) (fun _ _ _ h => h) (Or.inl ⟨by rfl, ?hyneg7⟩) (by assumption) ?_
    case hyneg7 => (intro w hSw; (try dsimp only at hSw); go_simp; (try with_reducible rfl))
    try simp only [Act.put, List.setIfInBounds_toArray, List.set_cons_zero, List.set_cons_succ]
    refine readyL (rs := [7]) (by kernel_rfl) (by simp) ?_
    refine AllReadyL.cons rfl (fun K hK => ?_) AllReadyL.nil
    go_simp
    refine (coerce_from (coerce_any 8) (W0 := (w.alloc (Obj.cells #[.int .i64 14, .string nm, .int .i64 num, .int .i64 k1, .slice a1 n1 c1, .int .i64 k2, .slice a2 n2 c2, .int .i64 lb, .slice a3 ts.length c3] 35))) (below_drew _) (d := 4) (.inl (by omega)) (by omega) HP.out.1 HP.out.2.1 HP.out.2.2.1 HP.out.2.2.2.1 HP.out.2.2.2.2 HT2.out HT1.out).mono ?_
    rintro e w1 ⟨⟨v1, r1, rfl, hat1, -, hb1⟩, hU⟩
    obtain ⟨p0, p1, p2, pn, pa, pc, rfl⟩ := hat1.agg
    have hB1 := below_trans hU hb1
    refine hK.out _ _ ?_ (fun hS1 => ?_)
    · exact ⟨trivial, fun _ => HS0.out _ hB1⟩
    clear hK K hS0
    try simp only [Act.put, List.setIfInBounds_toArray, List.set_cons_zero, List.set_cons_succ]
    refine readyL (rs := [8]) (by kernel_rfl) (by simp) ?_
    refine AllReadyL.cons rfl (fun K hK => ?_) AllReadyL.nil
    go_simp
    refine (HHT.out _ _ _ hat1).mono ?_
    rw [HR.out]
    rintro e w2 ⟨rfl, hb2⟩
    have hB2 := below_trans hB1 hb2
    refine hK.out _ _ ?_ (fun hS2 => ?_)
    · exact ⟨trivial, fun _ => HS0.out _ hB2⟩
    clear hK K hS1
    try simp only [Act.put, List.setIfInBounds_toArray, List.set_cons_zero, List.set_cons_succ]
    refine readyL (rs := [9]) (by kernel_rfl) (by simp) ?_
    refine AllReadyL.cons rfl (fun K hK => ?_) AllReadyL.nil
    go_simp
    refine hK.out _ _ ?_ (fun hS3 => ?_)
    · exact ⟨trivial, fun _ => HS0.out _ hB2⟩
    clear hK K hS2
    try simp only [Act.put, List.setIfInBounds_toArray, List.set_cons_zero, List.set_cons_succ]
    refine readyL (rs := [10]) (by kernel_rfl) (by simp) ?_
    refine AllReadyL.cons rfl (fun K hK => ?_) AllReadyL.nil
    have hO2 := (hB2.block _ (lt_of_block HO1.out)).trans HO1.out
    have zM := (cell_of_block (o := 0) hO2).trans (show _ = some (.int .i64 h) from rfl)
    have zf := fun o => frozen_of_block (o := o) hO2
    go_simp
    refine hK.out _ _ ?_ (fun hS4 => ?_)
    · exact ⟨trivial, fun h => absurd (h.symm.trans (show _ = true by kernel_rfl)) (by decide)⟩
    clear hK K hS3
    try simp only [Act.put, List.setIfInBounds_toArray, List.set_cons_zero, List.set_cons_succ]
    refine doneL (by kernel_rfl) ?_ _
    have HF := hid (hg_close (y := h) hO2 (below_trans HB0.out hB2) hMB (by have := HRB.out; omega) (by have := HRB.out; omega))
    have hmx : max h r = h := by omega
    clear zM zf hO2
    go_wp2_with fail
    first | go_ret | go_end0
    exact ⟨⟨_, rfl⟩, _, by first | exact HF.out.1 | (rw [hmx]; exact HF.out.1), HF.out.2⟩

set_option maxRecDepth 100000 in
set_option maxHeartbeats 2000000 in
theorem implTermHeight (t : Tm) (v : Value) (fp : List Nat) (w : World) (hsz : t.sz ≤ 1048576) (hF : Forms w) (hat : t.At w v fp) :
    Calls Tryd.prog 23 #[v] w fun e w' => e = .returned (.int .i64 (thV t)) ∧ Below w.heap.size w w' := by
  have hlt := hat.lt
  have HLT := hid hlt
  clear hlt
  have hat0 := hat
  obtain ⟨k, nm, num, k1, n1, a1, c1, k2, n2, a2, c2, lb, n3, a3, c3, rfl⟩ := hat.agg
  have hb0 : Below w.heap.size w (w.alloc (Obj.cells #[.int .i64 k, .string nm, .int .i64 num, .int .i64 k1, .slice a1 n1 c1, .int .i64 k2, .slice a2 n2 c2, .int .i64 lb, .slice a3 n3 c3] 35)) := (Below.refl _ _).alloc (Nat.le_refl _) _
  have HV := hid (implCastValid t _ _ _ (hF.below hb0) (hat0.below hb0))
  have HT := hid (show thV t = if vldC t then thN t else 0 from rfl)
  have HSH := hid (show vldC t = true → shpC 40 t = true from fun h => by unfold vldC at h; simp only [Bool.and_eq_true] at h; exact h.1)
  generalize thV t = L at *
  generalize vldC t = r at *
  go_enter Tryd.func23, Tryd.ntmps23
  go_wp2_with fail
  refine HV.out.mono ?_
  rintro e w1 ⟨rfl, hb1⟩
  obtain ⟨z0, z1, z2, z3, z4, z5, z6, z7, z8⟩ := box9 hb1
  have b1 := below_trans hb0 hb1
  have hat2 := hat.below b1
  have hal : Below w1.heap.size w1 (w1.alloc (Obj.cells #[.int .i64 0] 3)) := (Below.refl _ _).alloc (Nat.le_refl _) _
  cases r
  · have HFIN := hid (show L = 0 ∧ Below w.heap.size w w1 from ⟨by rw [HT.out]; rfl, b1⟩)
    go_wp2_with fail
    go_ret
    exact ⟨ret_i HFIN.out.1.symm, HFIN.out.2⟩
  · have HSHP := hid (HSH.out rfl)
    replace z0 := cell_keep z0 hal
    replace z1 := cell_keep z1 hal
    replace z2 := cell_keep z2 hal
    replace z3 := cell_keep z3 hal
    replace z4 := cell_keep z4 hal
    replace z5 := cell_keep z5 hal
    replace z6 := cell_keep z6 hal
    replace z7 := cell_keep z7 hal
    replace z8 := cell_keep z8 hal
    have hs1 : (w1.alloc (Obj.cells #[.int .i64 0] 3)).heap.size = w1.heap.size + 1 := by simp
    have HL := hid (show HgAt w1.heap.size (w1.heap.size + 1) 0 (.int .i64 0) (w1.alloc (Obj.cells #[.int .i64 0] 3)) from ⟨alloc_new _ _, rfl, Nat.lt_succ_self _, by omega, by omega⟩)
    have HAT := hid (hat2.below hal)
    have HLT1 := hid (show ∀ x ∈ fp, x < w1.heap.size from fun x hx => Nat.lt_of_lt_of_le (HLT.out x hx) b1.size)
    have HB1 := hid b1
    have HAL := hid hal
    clear hat2 b1
    go_wp2_with fail
    refine (eachCast_any 69 #[.pointer (some ⟨w1.heap.size, 0, none⟩)] w1.heap.size (w1.heap.size + 1) (HgAt w1.heap.size (w1.heap.size + 1)) (fun _ => 0) hStep callOk_th (Nat.lt_succ_self _) (fun _ _ => by omega)
      (fun a v w w' h hb => ⟨blk h.1 hb, h.2⟩) (fun a v w h b hb => by rw [h.2.1] at hb; cases hb) (visitTh w1.heap.size (w1.heap.size + 1))
      t 0 (.int .i64 0) _ fp 40 _ HL.out HAT.out HLT1.out HSHP.out (Nat.le_of_eq hs1.symm) hsz (by show 0 + 2 * (t.sz + 1) ≤ 4194300; omega)).mono ?_
    rintro e w3 ⟨⟨r3, rfl⟩, v3, ⟨hO3, rfl, hMB, -, -⟩, hr3⟩
    rw [ecN_th t 0 (by omega)] at hO3
    have hc3 : w3.cell? ⟨w1.heap.size, 0, none⟩ = some (.int .i64 (max 0 (thN t))) := by rw [cell_of_block hO3]; rfl
    have HFIN := hid (show L = max 0 (thN t) ∧ Below w.heap.size w w3 from ⟨by rw [HT.out, if_pos trivial]; have h0 := thN_nn t; omega, below_trans HB1.out ((HAL.out.mono (Nat.le_refl _)).trans ((hr3.below hMB (Nat.le_of_eq hs1.symm) (fun b hb => by cases hb)).mono (Nat.le_refl _)))⟩)
    generalize max 0 (thN t) = R at *
    clear hO3 hr3 z0 z1 z2 z3 z4 z5 z6 z7 z8
    go_wp2_with fail
    go_ret
    exact ⟨ret_i HFIN.out.1.symm, HFIN.out.2⟩
end Go.Proofs.YtgekfnodmgkdaaaDoor

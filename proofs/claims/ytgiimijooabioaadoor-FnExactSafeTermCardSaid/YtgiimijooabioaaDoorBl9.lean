/- UnsafeLabels and SafeTerm: the program's. -/
import Derived.Test.YtgiimijooabioaaDoorBl8
import Derived.Test.YtgiimijooabioaaDoorSrd
namespace Go.Proofs.YtgiimijooabioaaDoor
open Go.RowKit

theorem callOk_ul : CallOkT 59 := fun _ _ => by kernel_rfl

/-- What has been collected behind j of a cast's two labels. -/
def ulD (fr ty : Ty) (lb : Int) (ds : List Int) (j : Nat) : List Int := ([lb, -lb].take j).foldl (ulAdd fr ty lb) ds

theorem ulD_step (fr ty : Ty) (lb : Int) (ds : List Int) (j : Nat) (h : j < 2) : ∃ x, #[Value.int .i64 lb, Value.int .i64 (-lb)][j]? = some (.int .i64 x) ∧ ulD fr ty lb ds (j + 1) = if canB fr ty lb x then ulD fr ty lb ds j ++ [x] else ulD fr ty lb ds j := by
  have : j = 0 ∨ j = 1 := by omega
  rcases this with rfl | rfl
  · exact ⟨lb, rfl, rfl⟩
  · exact ⟨-lb, rfl, rfl⟩

theorem ulD_len (fr ty : Ty) (lb : Int) (ds : List Int) (j : Nat) (h : j ≤ 2) : (ulD fr ty lb ds j).length ≤ ds.length + 2 := by
  have h1 := ulAdd_len fr ty lb ds lb
  have h2 := ulAdd_len fr ty lb (ulAdd fr ty lb ds lb) (-lb)
  have : j = 0 ∨ j = 1 ∨ j = 2 := by omega
  rcases this with rfl | rfl | rfl <;> simp only [ulD, List.take_zero, List.foldl_nil, List.take_succ_cons, List.foldl_cons] <;> omega

set_option maxRecDepth 100000 in
set_option maxHeartbeats 4000000 in
theorem visitUl (M B : Nat) : VisC 59 #[.pointer (some ⟨M, 0, none⟩)] M B (LabAt M B) List.length ulStep := by
  intro ds v nm num ty fr lb ts k1 n1 a1 c1 k2 n2 a2 c2 a3 c3 fp w hS hat hown4 hfp hBw hlen
  have HS := hid hS
  obtain ⟨hO, hG, hMB⟩ := hS
  have HVO := hid hG.own_ge
  have hS2 := hG
  obtain ⟨hlb, hty, hfr⟩ := own4_prt8 hown4
  obtain ⟨hl0, hl1, hl2⟩ := isLb_rng8 hlb
  obtain ⟨i0, hi0, hz0, hz1, hz2⟩ := info_parts (P := Tryd.prog) (e := 3) Tryd.infoInt
  obtain ⟨k1', n1', a1', c1', k2', n2', a2', c2', a3', c3', f1, f2, f3, e, hnm, ht1, ht2, rfl, hs⟩ := hat.parts
  simp only [Value.agg.injEq, Array.mk.injEq, List.cons.injEq, Value.int.injEq, Value.slice.injEq, and_true, true_and] at e
  obtain ⟨rfl, ⟨rfl, rfl, rfl⟩, rfl, ⟨rfl, rfl, rfl⟩, rfl, rfl⟩ := e
  have hbv : Below w.heap.size w ((w.alloc (Obj.cells #[.int .i64 14, .string nm, .int .i64 num, .int .i64 k1, .slice a1 n1 c1, .int .i64 k2, .slice a2 n2 c2, .int .i64 lb, .slice a3 ts.length c3] 35)).alloc (Obj.cells #[.int .i64 lb, .int .i64 (-lb)] 3)) := ((Below.refl _ _).alloc (Nat.le_refl _) _).alloc (by simp) _
  have hMlt : M < w.heap.size := by omega
  have HBV := hid hbv
  have HQ := hid (fun (x : Int) (w' : World) (h1 : ty.At w' (.agg #[.int .i64 k1, .slice a1 n1 c1]) f1) (h2 : fr.At w' (.agg #[.int .i64 k2, .slice a2 n2 c2]) f2) => canBlame_any 14 nm num ty fr lb x ts.length k1 k2 n1 c1 n2 c2 c3 a1 a2 a3 f1 f2 w' hty hfr hl1 hl2 h1 h2)
  have hown2 := hS2.own_ge
  have HRD := hid (show ∀ (wr : World) (v' : Value), Lr M ((w.alloc (Obj.cells #[.int .i64 14, .string nm, .int .i64 num, .int .i64 k1, .slice a1 n1 c1, .int .i64 k2, .slice a2 n2 c2, .int .i64 lb, .slice a3 ts.length c3] 35)).alloc (Obj.cells #[.int .i64 lb, .int .i64 (-lb)] 3)) wr v v' → ty.At wr (.agg #[.int .i64 k1, .slice a1 n1 c1]) f1 ∧ fr.At wr (.agg #[.int .i64 k2, .slice a2 n2 c2]) f2 from fun wr v' hL =>
    ⟨(ht1.below hbv).congr fun b hb o => World.cell?_of_block (w := ((w.alloc (Obj.cells #[.int .i64 14, .string nm, .int .i64 num, .int .i64 k1, .slice a1 n1 c1, .int .i64 k2, .slice a2 n2 c2, .int .i64 lb, .slice a3 ts.length c3] 35)).alloc (Obj.cells #[.int .i64 lb, .int .i64 (-lb)] 3))) (a := ⟨b, o, none⟩) (hL.2.1 b (by have := hfp b (by simp [hb]); have := hbv.size; omega) (by have := hfp b (by simp [hb]); omega) (fun e => by have := (hown2 b e.symm).1; have := hfp b (by simp [hb]); omega)),
     (ht2.below hbv).congr fun b hb o => World.cell?_of_block (w := ((w.alloc (Obj.cells #[.int .i64 14, .string nm, .int .i64 num, .int .i64 k1, .slice a1 n1 c1, .int .i64 k2, .slice a2 n2 c2, .int .i64 lb, .slice a3 ts.length c3] 35)).alloc (Obj.cells #[.int .i64 lb, .int .i64 (-lb)] 3))) (a := ⟨b, o, none⟩) (hL.2.1 b (by have := hfp b (by simp [hb]); have := hbv.size; omega) (by have := hfp b (by simp [hb]); omega) (fun e => by have := (hown2 b e.symm).1; have := hfp b (by simp [hb]); omega))⟩)
  clear hown2 hS2
  obtain ⟨x0, x1, x2, x3, x4, x5, x6, x7, x8⟩ := box9 (Below.refl ((w.alloc (Obj.cells #[.int .i64 14, .string nm, .int .i64 num, .int .i64 k1, .slice a1 n1 c1, .int .i64 k2, .slice a2 n2 c2, .int .i64 lb, .slice a3 ts.length c3] 35))).heap.size (w.alloc (Obj.cells #[.int .i64 14, .string nm, .int .i64 num, .int .i64 k1, .slice a1 n1 c1, .int .i64 k2, .slice a2 n2 c2, .int .i64 lb, .slice a3 ts.length c3] 35)))
  have HT8 := hid (two8 (Below.refl (((w.alloc (Obj.cells #[.int .i64 14, .string nm, .int .i64 num, .int .i64 k1, .slice a1 n1 c1, .int .i64 k2, .slice a2 n2 c2, .int .i64 lb, .slice a3 ts.length c3] 35)).alloc (Obj.cells #[.int .i64 lb, .int .i64 (-lb)] 3))).heap.size ((w.alloc (Obj.cells #[.int .i64 14, .string nm, .int .i64 num, .int .i64 k1, .slice a1 n1 c1, .int .i64 k2, .slice a2 n2 c2, .int .i64 lb, .slice a3 ts.length c3] 35)).alloc (Obj.cells #[.int .i64 lb, .int .i64 (-lb)] 3))))
  have HWR := hid (show IntKind.i64.wrap (-lb) = -lb by rw [IntKind.wrap_i64]; omega)
  have HSTEP := hid (show ulStep ds (.mk 14 nm num ty fr lb ts) = ulD fr ty lb ds 2 from rfl)
  have HUD := hid (ulD_step fr ty lb ds)
  have HUL := hid (ulD_len fr ty lb ds)
  have HD0 := hid (show ulD fr ty lb ds 0 = ds from rfl)
  rw [HSTEP.out]
  generalize ulD fr ty lb ds = DD at *
  clear hat hO hG hown4 hfp hlb hty hfr ht1 ht2 hs hnm hbv HSTEP
  go_enter Tryd.func59, Tryd.ntmps59
  go_wp2_with fail
  clear x0 x1 x2 x3 x4 x5 x6 x7 x8
  go_loopw [4, 12] (fun _ i wr => ∃ (j : Nat) (v' : Value), j ≤ 2 ∧ i = .int .i64 j ∧ LabAt M B (DD j) v' wr ∧ Lr M ((w.alloc (Obj.cells #[.int .i64 14, .string nm, .int .i64 num, .int .i64 k1, .slice a1 n1 c1, .int .i64 k2, .slice a2 n2 c2, .int .i64 lb, .slice a3 ts.length c3] 35)).alloc (Obj.cells #[.int .i64 lb, .int .i64 (-lb)] 3)) wr v v') (fun _ i _ => 2 - (intOf i).toNat)
  case atStart => exact ⟨0, v, Nat.zero_le _, rfl, by rw [HD0.out]; exact HS.out.below HBV.out, Lr.of_below (Below.refl _ _) _⟩
  case round =>
    obtain ⟨j, v', hj, rfl, hLab, hLr⟩ := hrel
    have HLr := hid hLr
    obtain ⟨hOr, hGr, -⟩ := hLab
    have hEc := hLr.heap HT8.out.1 (by omega) (fun e => by have := (HVO.out _ e.symm).2; omega)
    have hEs := hLr.heap HT8.out.2 (by omega) (fun e => by have := (HVO.out _ e.symm).2; omega)
    have HOR := hid hOr
    have HGR := hid hGr
    have HEC := hid hEc
    clear hLr hOr hGr
    by_cases hlk : j < 2
    · obtain ⟨x, hcx, hDx⟩ := HUD.out j hlk
      have hcl : wr.cell? ⟨w.heap.size + 1, j, none⟩ = some (.int .i64 x) := by rw [cell_of_block hEs]; exact hcx
      obtain ⟨x0, x1, x2, x3, x4, x5, x6, x7, x8⟩ := nine8 hEc
      have hul := HUL.out j hj
      have HQX := hid (HQ.out x wr (HRD.out wr v' HLr.out).1 (HRD.out wr v' HLr.out).2)
      have HCX := hid hDx
      have hws := HLr.out.1.2.2.2
      have hwz := HBV.out.size
      have hws1 : w.heap.size + 1 + 1 ≤ wr.heap.size := by have := hws; simp at this; exact this
      obtain ⟨av, capv, rfl⟩ := HGR.out.shape
      generalize hDj : DD j = D at *
      generalize hDk : DD (j + 1) = E at *
      generalize canB fr ty lb x = r at *
      have HOWN := hid HGR.out.own_ge
      clear hcx hDx hEc hEs hDj
      go_wp2_with fail
      refine HQX.out.mono ?_
      rintro e wc ⟨rfl, hbc⟩
      have HOc := hid (blk HOR.out hbc)
      have HGW := hid (HGR.out.below hbc)
      have HBC := hid hbc
      have hwcs := hbc.size
      have hcl2 := cell_keep hcl hbc
      clear x0 x1 x2 x3 x4 x5 x6 x7 x8 hcl hbc
      cases r
      · rw [if_neg (by simp)] at HCX
        have HEE := HCX.out
        subst HEE
        go_wp2_with fail
        go_roundw
        case rel => exact ⟨j + 1, _, by omega, by go_num, by rw [hDk]; exact ⟨HOc.out, HGW.out, hMB⟩, HLr.out.trans (Lr.of_below HBC.out _)⟩
        case measure => simp [intOf]; omega
      · rw [if_pos (by simp)] at HCX
        have yM : wc.cell? ⟨M, 0, none⟩ = some (.slice av D.length capv) := by rw [cell_of_block HOc.out]; rfl
        have halc : Below wc.heap.size wc (wc.alloc (Obj.cells #[.int .i64 x] 3)) := (Below.refl _ _).alloc (Nat.le_refl _) _
        have zM := cell_keep yM halc
        have hMwc : M < wc.heap.size := by omega
        have HBWc := hid (show B ≤ wc.heap.size by omega)
        go_wp2_with (refine wpList_append_lies _ rfl (.tmp 19) (.tmp 21) 39 rfl B 3 i0 _ 1 8 Tryd.underInts hi0 hz0 hz1 hz2 rfl (by omega) (.slice av D.length capv) D.length (D.map (Value.int .i64)) rfl (World.ownsRow.alloc HGW.out _) ⟨wc.heap.size, 0, none⟩ 1 1 [.int .i64 x] rfl rfl (World.news_of_block (cs := #[.int .i64 x]) (t := 3) (fr := (0, 0)) (heap_alloc_new wc _)) (by simp [Value.oneCell']) (by omega) (by unfold maxLen; omega) (by omega) (by simp; omega) (wc.heap.size + 1) (by simp) ?_; intro g3 cp w3 hown3 hgrow hat3 hlt3; have mF := m_frozen hgrow HOWN.out hMB (blk HOc.out halc); have m0 := m_cell hgrow HOWN.out hMB zM; clear yM zM)
        have HF := hid (lab_close (w := wr) HOc.out HGW.out HBC.out rfl hgrow hown3 rfl (by simpa using hat3) hMB HBWc.out)
        clear hown3 hgrow hat3 hlt3 m0 mF
        go_wp2_with fail
        go_roundw
        case rel => exact ⟨j + 1, _, by omega, by go_num, by rw [hDk, HCX.out]; exact HF.out.1, HLr.out.trans HF.out.2⟩
        case measure => simp [intOf]; omega
    · obtain rfl : j = 2 := by omega
      go_wp2_with fail
      first | go_ret | go_end0
      exact ⟨⟨_, rfl⟩, v', ⟨HOR.out, HGR.out, hMB⟩, (Lr.of_below HBV.out _).trans HLr.out⟩
set_option maxRecDepth 100000 in
set_option maxHeartbeats 2000000 in
theorem implUnsafeLabels (t : Tm) (v : Value) (fp : List Nat) (w : World) (hsz : t.sz ≤ 1048576) (hF : Forms w) (hat : t.At w v fp) :
    Calls Tryd.prog 18 #[v] w (MadeI w (ulLst t)) := by
  have hlt := hat.lt
  have HLT := hid hlt
  clear hlt
  have hat0 := hat
  obtain ⟨k, nm, num, k1, n1, a1, c1, k2, n2, a2, c2, lb, n3, a3, c3, rfl⟩ := hat.agg
  have hb0 : Below w.heap.size w (w.alloc (Obj.cells #[.int .i64 k, .string nm, .int .i64 num, .int .i64 k1, .slice a1 n1 c1, .int .i64 k2, .slice a2 n2 c2, .int .i64 lb, .slice a3 n3 c3] 35)) := (Below.refl _ _).alloc (Nat.le_refl _) _
  have HV := hid (implCastValid t _ _ _ (hF.below hb0) (hat0.below hb0))
  have HT := hid (show ulLst t = if vldC t then (ecN ulStep [] t).foldl srtI [] else [] from rfl)
  have HLN := hid (show (ecN ulStep [] t).length ≤ 2 * (t.sz + 1) by have := ecN_len ulStep List.length ulStep_len t []; simpa using this)
  have HEQ := hid (compact_sort (ecN ulStep [] t))
  have HSH := hid (show vldC t = true → shpC 40 t = true from fun h => by unfold vldC at h; simp only [Bool.and_eq_true] at h; exact h.1)
  generalize ulLst t = L at *
  generalize vldC t = r at *
  go_enter Tryd.func18, Tryd.ntmps18
  go_wp2_with fail
  refine HV.out.mono ?_
  rintro e w1 ⟨rfl, hb1⟩
  obtain ⟨z0, z1, z2, z3, z4, z5, z6, z7, z8⟩ := box9 hb1
  have b1 := below_trans hb0 hb1
  have hat2 := hat.below b1
  have hal : Below w1.heap.size w1 (w1.alloc (Obj.cells #[.slice none 0 0] 39)) := (Below.refl _ _).alloc (Nat.le_refl _) _
  cases r
  · have HFIN := hid (show MadeI w L (.returned (.slice none 0 0)) w1 from ⟨_, rfl, by rw [HT.out]; exact GrowI.zero _ _, b1⟩)
    go_wp2_with fail
    go_ret
    exact HFIN.out
  · have HSHP := hid (HSH.out rfl)
    replace z0 := cell_keep z0 hal
    replace z1 := cell_keep z1 hal
    replace z2 := cell_keep z2 hal
    replace z3 := cell_keep z3 hal
    replace z4 := cell_keep z4 hal
    replace z5 := cell_keep z5 hal
    replace z6 := cell_keep z6 hal
    replace z7 := cell_keep z7 hal
    replace z8 := cell_keep z8 hal
    have hs1 : (w1.alloc (Obj.cells #[.slice none 0 0] 39)).heap.size = w1.heap.size + 1 := by simp
    have HL := hid (show LabAt w1.heap.size (w1.heap.size + 1) [] (.slice none 0 0) (w1.alloc (Obj.cells #[.slice none 0 0] 39)) from ⟨alloc_new _ _, GrowI.zero _ _, Nat.lt_succ_self _⟩)
    have HAT := hid (hat2.below hal)
    have HLT1 := hid (show ∀ x ∈ fp, x < w1.heap.size from fun x hx => Nat.lt_of_lt_of_le (HLT.out x hx) b1.size)
    have hsz2 : ([] : List Int).length + 2 * (t.sz + 1) ≤ 4194300 := by simp only [List.length_nil]; omega
    have HS2 := hid hsz2
    have HB1 := hid b1
    have HAL := hid hal
    clear hat2 hsz2 b1
    go_wp2_with fail
    refine (eachCast_any 59 #[.pointer (some ⟨w1.heap.size, 0, none⟩)] w1.heap.size (w1.heap.size + 1) (LabAt w1.heap.size (w1.heap.size + 1)) List.length ulStep callOk_ul (Nat.lt_succ_self _) ulStep_len
      (fun a v w w' h hb => h.below hb) (fun a v w h => h.2.1.own_ge) (visitUl w1.heap.size (w1.heap.size + 1))
      t [] (.slice none 0 0) _ fp 40 _ HL.out HAT.out HLT1.out HSHP.out (Nat.le_of_eq hs1.symm) hsz HS2.out).mono ?_
    rintro e w3 ⟨⟨r3, rfl⟩, v3, ⟨hO3, hG3, hMB⟩, hr3⟩
    obtain ⟨a3', c3', rfl⟩ := hG3.shape
    have hc3 : w3.cell? ⟨w1.heap.size, 0, none⟩ = some (.slice a3' (ecN ulStep [] t).length c3') := by rw [cell_of_block hO3]; rfl
    have HB3 := hid (hr3.below hMB (Nat.le_of_eq hs1.symm) (fun b hb => by cases hb))
    have HS3 := hid hr3.1.2.2.2
    have HG3 := hid hG3
    have HO3 := hid hO3
    clear hG3 hO3 hr3 z0 z1 z2 z3 z4 z5 z6 z7 z8
    go_wp2_with fail
    refine (sortedLabels_any (w1.heap.size + 1) _ _ _ HG3.out (by have := HS3.out; omega) (by have := HLN.out; omega)).mono ?_
    rintro e w5 ⟨v5, rfl, hG5, hr5⟩
    have HB5 := hid (show Below (w1.heap.size + 1) w3 w5 from ⟨hr5.1.1, hr5.1.2.1, hr5.1.2.2.1, hr5.1.2.2.2, fun k hk => by
      exact hr5.2.1 k (by have := HS3.out; omega) (by omega) (fun e => by have := (HG3.out.own_ge _ e.symm).1; omega)⟩)
    have HFIN := hid (show MadeI w L (.returned v5) w5 from ⟨v5, rfl, by rw [HT.out, if_pos trivial, ← HEQ.out]; exact hG5.mono (by have := HB1.out.size; omega), HB1.out.trans ((HAL.out.trans (HB3.out.trans (HB5.out.mono (Nat.le_succ _)))).mono HB1.out.size)⟩)
    clear hG5 hr5
    go_wp2_with fail
    go_ret
    exact HFIN.out

theorem ulLst_len8 (t : Tm) : (ulLst t).length ≤ 2 * (t.sz + 1) := by
  rw [← ul_of t]
  have h1 := usFold_len t (lbLst t) []
  have h2 := lbLst_len8 t
  simp only [List.length_nil] at h1
  omega

def stOf (t : Tm) : Bool := vldC t && (ulLst t).length == 0

set_option maxHeartbeats 2000000 in
theorem specSafeTerm (t : Tm) (v : Value) (fp : List Nat) (w : World) (hsz : t.sz ≤ 1048576) (hat : t.At w v fp) :
    Calls Tryd.prog 23 #[v] w fun e w' => e = .returned (.bool (stOf t)) ∧ Below w.heap.size w w' := by
  have hat0 := hat
  obtain ⟨k, nm, num, k1, n1, a1, c1, k2, n2, a2, c2, lb, n3, a3, c3, rfl⟩ := hat.agg
  have hb0 : Below w.heap.size w (w.alloc (Obj.cells #[.int .i64 k, .string nm, .int .i64 num, .int .i64 k1, .slice a1 n1 c1, .int .i64 k2, .slice a2 n2 c2, .int .i64 lb, .slice a3 n3 c3] 35)) := (Below.refl _ _).alloc (Nat.le_refl _) _
  have HCV := hid (specCastValid t _ _ _ hsz (hat0.below hb0))
  have HV := hid (fun (w' : World) (h : Below w.heap.size w w') => specUnsafeLabels t _ _ w' hsz (hat0.below h))
  have HE := hid (show stOf t = (vldC t && (ulLst t).length == 0) from rfl)
  have HLN := hid (ulLst_len8 t)
  have HB := hid hb0
  generalize stOf t = R at *
  generalize vldC t = cv at *
  generalize ulLst t = L at *
  clear hat hat0 hb0
  go_enter Tryd.func23, Tryd.ntmps23
  go_wp2_with fail
  refine HCV.out.mono ?_
  rintro e w1 ⟨rfl, hb1⟩
  obtain ⟨z0, z1, z2, z3, z4, z5, z6, z7, z8⟩ := box9 hb1
  have HB1 := hid (below_trans HB.out hb1)
  cases cv
  · go_wp2_with fail
    go_ret
    exact ⟨ret_b (by rw [HE.out]; rfl), HB1.out⟩
  · go_wp2_with fail
    refine (HV.out _ HB1.out).mono ?_
    rintro e w2 ⟨v2, rfl, hG, hb2⟩
    obtain ⟨a2', c2', rfl⟩ := hG.shape
    have HFB := hid (below_trans HB1.out hb2)
    have HRR := hid (show R = ((L.length : Int) == 0) by
      rw [HE.out, Bool.true_and]
      cases L with
      | nil => rfl
      | cons x xs =>
        have : (((x :: xs).length : Int) == 0) = false := by rw [beq_eq_false_iff_ne]; simp only [List.length_cons]; omega
        rw [this]
        rfl)
    generalize L.length = n at *
    clear hG hb2
    go_wp2_with fail
    go_ret
    exact ⟨ret_b HRR.out.symm, HFB.out⟩

set_option maxHeartbeats 2000000 in
theorem implSafeTerm (t : Tm) (v : Value) (fp : List Nat) (w : World) (hsz : t.sz ≤ 1048576) (hF : Forms w) (hat : t.At w v fp) :
    Calls Tryd.prog 24 #[v] w fun e w' => e = .returned (.bool (stOf t)) ∧ Below w.heap.size w w' := by
  have hat0 := hat
  obtain ⟨k, nm, num, k1, n1, a1, c1, k2, n2, a2, c2, lb, n3, a3, c3, rfl⟩ := hat.agg
  have hb0 : Below w.heap.size w (w.alloc (Obj.cells #[.int .i64 k, .string nm, .int .i64 num, .int .i64 k1, .slice a1 n1 c1, .int .i64 k2, .slice a2 n2 c2, .int .i64 lb, .slice a3 n3 c3] 35)) := (Below.refl _ _).alloc (Nat.le_refl _) _
  have HFF := hid hF
  have HCV := hid (implCastValid t _ _ _ (hF.below hb0) (hat0.below hb0))
  have HV := hid (fun (w' : World) (h : Below w.heap.size w w') => implUnsafeLabels t _ _ w' hsz (HFF.out.below h) (hat0.below h))
  have HE := hid (show stOf t = (vldC t && (ulLst t).length == 0) from rfl)
  have HLN := hid (ulLst_len8 t)
  have HB := hid hb0
  generalize stOf t = R at *
  generalize vldC t = cv at *
  generalize ulLst t = L at *
  clear hat hat0 hb0
  go_enter Tryd.func24, Tryd.ntmps24
  go_wp2_with fail
  refine HCV.out.mono ?_
  rintro e w1 ⟨rfl, hb1⟩
  obtain ⟨z0, z1, z2, z3, z4, z5, z6, z7, z8⟩ := box9 hb1
  have HB1 := hid (below_trans HB.out hb1)
  cases cv
  · go_wp2_with fail
    go_ret
    exact ⟨ret_b (by rw [HE.out]; rfl), HB1.out⟩
  · go_wp2_with fail
    refine (HV.out _ HB1.out).mono ?_
    rintro e w2 ⟨v2, rfl, hG, hb2⟩
    obtain ⟨a2', c2', rfl⟩ := hG.shape
    have HFB := hid (below_trans HB1.out hb2)
    have HRR := hid (show R = ((L.length : Int) == 0) by
      rw [HE.out, Bool.true_and]
      cases L with
      | nil => rfl
      | cons x xs =>
        have : (((x :: xs).length : Int) == 0) = false := by rw [beq_eq_false_iff_ne]; simp only [List.length_cons]; omega
        rw [this]
        rfl)
    generalize L.length = n at *
    clear hG hb2
    go_wp2_with fail
    go_ret
    exact ⟨ret_b HRR.out.symm, HFB.out⟩
end Go.Proofs.YtgiimijooabioaaDoor

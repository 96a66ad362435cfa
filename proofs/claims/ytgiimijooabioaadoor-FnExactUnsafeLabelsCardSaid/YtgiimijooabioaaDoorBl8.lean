/- UnsafeLabels and SafeTerm: the specification's. -/
import Derived.Test.YtgiimijooabioaaDoorBl7
import Derived.Test.YtgiimijooabioaaDoorLbA
namespace Go.Proofs.YtgiimijooabioaaDoor
open Go.RowKit

mutual
theorem lbN_len : ∀ (t : Tm) (a : List Int), (ecN lbStep a t).length ≤ a.length + (t.sz + 1)
  | .mk k nm num ty fr lb ts, a => by
    have h := lbL_len ts (if k = 14 then lbStep a (.mk k nm num ty fr lb ts) else a)
    have h2 : (if k = 14 then lbStep a (.mk k nm num ty fr lb ts) else a).length ≤ a.length + 1 := by
      split
      · simp [lbStep]
      · omega
    simp only [ecN, Tm.sz]
    omega
theorem lbL_len : ∀ (ts : List Tm) (a : List Int), (ecL lbStep a ts).length ≤ a.length + (ts.length + szML ts)
  | [], a => by simp [ecL, szML]
  | t :: ts, a => by
    have h1 := lbN_len t a
    have h2 := lbL_len ts (ecN lbStep a t)
    simp only [ecL, List.length_cons, szML]
    omega
end

theorem srtF_len : ∀ (zs a : List Int), (zs.foldl srtI a).length ≤ a.length + zs.length
  | [], a => by simp
  | z :: zs, a => by
    have h1 := srtF_len zs (srtI a z)
    have h2 := srtI_len a z
    simp only [List.foldl_cons, List.length_cons]
    omega

theorem srN_eq (t : Tm) : ecN srStep [] t = (ecN lbStep [] t).foldl srtI [] := ecN_srt t []

theorem lbLst_len8 (t : Tm) : (lbLst t).length ≤ t.sz + 1 := by
  unfold lbLst
  split
  · rw [srN_eq]
    have h1 := srtF_len (ecN lbStep [] t) []
    have h2 := lbN_len t []
    simp only [List.length_nil] at *
    omega
  · simp

theorem isLb_neg {x : Int} (h : isLb x = true) : isLb (-x) = true := by
  obtain ⟨h0, h1, h2⟩ := isLb_rng8 h
  simp only [isLb, Bool.and_eq_true, decide_eq_true_eq, bne_iff_ne]
  exact ⟨⟨by omega, by omega⟩, by omega⟩

theorem lbN_isLb : ∀ (t : Tm) (d : Nat) (a : List Int), shpC d t = true → (∀ x ∈ a, isLb x = true) → ∀ x ∈ ecN lbStep a t, isLb x = true := by
  refine Tm.ind (P := fun t => ∀ (d : Nat) (a : List Int), shpC d t = true → (∀ x ∈ a, isLb x = true) → ∀ x ∈ ecN lbStep a t, isLb x = true) ?_
  intro k nm num ty fr lb ts ih d a hsh ha
  obtain ⟨d', hkids, h14⟩ := shpC_node hsh
  have ha2 : ∀ x ∈ (if k = 14 then lbStep a (.mk k nm num ty fr lb ts) else a), isLb x = true := by
    split
    · rename_i hk
      intro x hx
      simp only [lbStep, List.mem_append, List.mem_singleton] at hx
      rcases hx with hx | rfl
      · exact ha x hx
      · exact (own4_prt8 (h14 hk)).1
    · exact ha
  have hL : ∀ (us : List Tm) (b : List Int), (∀ t ∈ us, t ∈ ts) → (∀ x ∈ b, isLb x = true) → ∀ x ∈ ecL lbStep b us, isLb x = true := by
    intro us
    induction us with
    | nil => intro b _ hb x hx; exact hb x hx
    | cons t us ihu =>
      intro b hm hb
      simp only [ecL]
      exact ihu _ (fun t h => hm t (by simp [h])) (ih t (hm t (by simp)) d' b (hkids t (hm t (by simp))) hb)
  simp only [ecN]
  exact hL ts _ (fun _ h => h) ha2

theorem lbLst_isLb (t : Tm) : ∀ x ∈ lbLst t, isLb x = true := by
  intro x hx
  unfold lbLst at hx
  split at hx
  · rename_i hv
    rw [srN_eq] at hx
    have := ((foldl_srt (ecN lbStep [] t) [] List.Pairwise.nil).2 x).1 hx
    simp only [List.not_mem_nil, or_false] at this
    exact lbN_isLb t 40 [] (vldC_shp hv) (by simp) x this
  · simp at hx

theorem usF_take (t : Tm) {L : List Int} {j : Nat} (h : j < L.length) : (L.take (j + 1)).foldl (usStep t) [] = usStep t ((L.take j).foldl (usStep t) []) L[j] := by
  rw [List.take_succ_eq_append_getElem h, List.foldl_append]
  rfl

theorem ul_of (t : Tm) : (lbLst t).foldl (usStep t) [] = ulLst t := by
  unfold lbLst ulLst
  split
  · exact us_eq t
  · rfl

set_option maxRecDepth 100000 in
set_option maxHeartbeats 4000000 in
theorem specUnsafeLabels (t : Tm) (v : Value) (fp : List Nat) (w : World) (hsz : t.sz ≤ 1048576) (hat : t.At w v fp) :
    Calls Tryd.prog 17 #[v] w (MadeI w (ulLst t)) := by
  have hat0 := hat
  obtain ⟨k, nm, num, k1, n1, a1, c1, k2, n2, a2, c2, lb, n3, a3, c3, rfl⟩ := hat.agg
  have hb0 : Below w.heap.size w (w.alloc (Obj.cells #[.int .i64 k, .string nm, .int .i64 num, .int .i64 k1, .slice a1 n1 c1, .int .i64 k2, .slice a2 n2 c2, .int .i64 lb, .slice a3 n3 c3] 35)) := (Below.refl _ _).alloc (Nat.le_refl _) _
  have hal : Below ((w.alloc (Obj.cells #[.int .i64 k, .string nm, .int .i64 num, .int .i64 k1, .slice a1 n1 c1, .int .i64 k2, .slice a2 n2 c2, .int .i64 lb, .slice a3 n3 c3] 35))).heap.size (w.alloc (Obj.cells #[.int .i64 k, .string nm, .int .i64 num, .int .i64 k1, .slice a1 n1 c1, .int .i64 k2, .slice a2 n2 c2, .int .i64 lb, .slice a3 n3 c3] 35)) (((w.alloc (Obj.cells #[.int .i64 k, .string nm, .int .i64 num, .int .i64 k1, .slice a1 n1 c1, .int .i64 k2, .slice a2 n2 c2, .int .i64 lb, .slice a3 n3 c3] 35))).alloc (Obj.cells #[] 3)) := (Below.refl _ _).alloc (Nat.le_refl _) _
  have hb2 := below_trans hb0 hal
  have HG0 := hid (GrowI.new (B := w.heap.size) (w := (w.alloc (Obj.cells #[.int .i64 k, .string nm, .int .i64 num, .int .i64 k1, .slice a1 n1 c1, .int .i64 k2, .slice a2 n2 c2, .int .i64 lb, .slice a3 n3 c3] 35))) (by simp))
  have HCL := hid (specCastLabels t _ _ _ hsz (hat0.below hb2))
  obtain ⟨x0, x1, x2, x3, x4, x5, x6, x7, x8⟩ := box9 hal
  have HAT := hid (fun (w' : World) (h : Below w.heap.size w w') => hat0.below h)
  have HLL := hid (lbLst_len8 t)
  have HLB := hid (lbLst_isLb t)
  have HUL := hid (ul_of t)
  have HSH := hid (show lbLst t ≠ [] → shpC 40 t = true from fun h => vldC_shp (by unfold lbLst at h; split at h <;> simp_all))
  have HB2 := hid hb2
  generalize ulLst t = R at *
  generalize lbLst t = L at *
  have hl63 : (L.length : Int) ≤ 9223372036854775807 := by have := HLL.out; omega
  clear hat hat0 hb0 hal hb2
  go_enter Tryd.func17, Tryd.ntmps17
  go_wp2_with fail
  refine HCL.out.mono ?_
  rintro e w1 ⟨vL, rfl, hGL, hb1⟩
  obtain ⟨aL, cL, rfl⟩ := hGL.shape
  have HGL := hid hGL
  have HB1 := hid (below_trans HB2.out hb1)
  have hE := (hb1.block w.heap.size (by simp; omega)).trans ((Below.heap_alloc _ _ _ (by simp)).trans (alloc_new w _))
  have HE := hid hE
  have HG1 := hid (HG0.out.below hb1)
  clear hGL hb1 x0 x1 x2 x3 x4 x5 x6 x7 x8 hE
  go_wp2_with fail
  go_loopw [3, 5] (fun out i wr => ∃ (j : Nat) (v' : Value), j ≤ L.length ∧ i = .int .i64 j ∧ out = v' ∧ GrowI w.heap.size ((L.take j).foldl (usStep t) []) v' wr ∧ Below w1.heap.size w1 wr) (fun _ i _ => L.length - (intOf i).toNat)
  case atStart => exact ⟨0, _, Nat.zero_le _, rfl, rfl, by simpa using HG1.out, Below.refl _ _⟩
  case round =>
    obtain ⟨j, v', hj, rfl, hout, hG, hb⟩ := hrel
    obtain ⟨av', nv', capv', hshape⟩ : ∃ a n c, v' = .slice a n c := by obtain ⟨a, c, h⟩ := hG.shape; exact ⟨a, _, c, h⟩
    subst hshape
    subst hout
    have HG := hid hG
    have HB := hid hb
    have HBW := hid (below_trans HB1.out hb)
    obtain ⟨x0, x1, x2, x3, x4, x5, x6, x7, x8⟩ := nine8 (blk HE.out hb)
    by_cases hlk : j < L.length
    · obtain ⟨g, hag, hglt, -, hcell0, -⟩ := HGL.out.cells j hlk
      subst hag
      have hcell := cell_keep hcell0 hb
      have hx := HLB.out _ (List.getElem_mem hlk)
      have HST := hid (usF_take t hlk)
      have hne : L ≠ [] := fun e => by rw [e] at hlk; simp at hlk
      have HS := hid (HSH.out hne)
      have HLEN := hid (show ((L.take j).foldl (usStep t) []).length ≤ 2097154 by
        have h1 := usFold_len t (L.take j) []
        have h2 := HLL.out
        simp only [List.length_nil, List.length_take] at h1
        omega)
      generalize hxx : L[j] = x at *
      generalize hD : (L.take j).foldl (usStep t) [] = D at *
      obtain ⟨hx0, hx1, hx2⟩ := isLb_rng8 hx
      have HX := hid (And.intro hx (isLb_neg hx))
      have HQ1 := hid (fun (w' : World) (h : Below w.heap.size w w') => l8Safe_any t 40 x _ _ w' HX.out.1 HS.out (HAT.out w' h))
      have HQ2 := hid (fun (w' : World) (h : Below w.heap.size w w') => l8Safe_any t 40 (-x) _ _ w' HX.out.2 HS.out (HAT.out w' h))
      have HCE := hid hcell
      have HU1 := hid (show usAdd t D x = if safN x t then D else srtI D x from rfl)
      have HUL1 := hid (usAdd_len t D x)
      have HU2 := hid (show usStep t D x = if safN (-x) t then usAdd t D x else srtI (usAdd t D x) (-x) from rfl)
      clear hb hG hx hxx hD hne hcell0
      generalize safN x t = r1 at *
      generalize safN (-x) t = r2 at *
      generalize usAdd t D x = D1 at *
      go_wp2_with fail
      go_still_tail 5, (by kernel_rfl)
      go_wp2_with fail
      refine (HQ1.out _ (HBW.out.drew)).mono ?_
      rintro e w2 ⟨rfl, hb2⟩
      have HB2' := hid (HB.out.drew.trans (hb2.mono (HB.out.drew).size))
      have HG2 := hid (HG.out.below (below_trans (below_drew wr) hb2))
      have hcell2 := cell_keep (cell_keep hcell (below_drew wr)) hb2
      have y0 := nine8 (blk (blk (blk HE.out HB.out) (below_drew wr)) hb2)
      obtain ⟨y0, y1, y2, y3, y4, y5, y6, y7, y8⟩ := y0
      clear hb2 hcell x0 x1 x2 x3 x4 x5 x6 x7 x8
      have hs2 := HB2'.out.size
      have HWS2 := hid (show w.heap.size ≤ w2.heap.size from Nat.le_trans HB1.out.size hs2)
      cases r1
      · rw [if_neg (by simp)] at HU1
        go_wp2_with fail
        refine (l4Sorted_any w.heap.size D _ x _ HG2.out HWS2.out (by have := HLEN.out; omega)).mono ?_
        rintro e w3 ⟨v3, rfl, hG3, hb3⟩
        rw [← HU1.out] at hG3
        obtain ⟨a3', c3', rfl⟩ := hG3.shape
        have HGK := hid hG3
        have HBK := hid (HB2'.out.trans (hb3.mono hs2))
        have hcell3 := cell_keep hcell2 hb3
        have y0' := cell_keep y0 hb3
        have y1' := cell_keep y1 hb3
        have y2' := cell_keep y2 hb3
        have y3' := cell_keep y3 hb3
        have y4' := cell_keep y4 hb3
        have y5' := cell_keep y5 hb3
        have y6' := cell_keep y6 hb3
        have y7' := cell_keep y7 hb3
        have y8' := cell_keep y8 hb3
        clear hG3 hb3 hcell2 y0 y1 y2 y3 y4 y5 y6 y7 y8
        go_wp2_with fail
        go_still_tail 6, (by kernel_rfl)
        go_wp2_with fail
        refine (HQ2.out _ ((below_trans HB1.out HBK.out).drew)).mono ?_
        rintro e w5 ⟨rfl, hb5⟩
        have HB5 := hid (HBK.out.trans (((Below.refl (w3).heap.size w3).drew.trans (hb5.mono ((Below.refl (w3).heap.size w3).drew).size)).mono HBK.out.size))
        have HG5 := hid (HGK.out.below (below_trans (below_drew w3) hb5))
        have hcell5 := cell_keep (cell_keep hcell3 (below_drew w3)) hb5
        have hs5 := HB5.out.size
        clear hb5 hcell3 y0' y1' y2' y3' y4' y5' y6' y7' y8'
        have HWS := hid (show w.heap.size ≤ w5.heap.size from Nat.le_trans HB1.out.size hs5)
        cases r2
        · rw [if_neg (by simp)] at HU2
          go_wp2_with fail
          refine (l4Sorted_any w.heap.size D1 _ (-x) _ HG5.out HWS.out (by have := HUL1.out; have := HLEN.out; omega)).mono ?_
          rintro e w6 ⟨v6, rfl, hG6, hb6⟩
          have HG6 := hid hG6
          have HB6 := hid (HB5.out.trans (hb6.mono hs5))
          clear hG6 hb6 hcell5
          go_wp2_with fail
          go_roundw
          case rel => exact ⟨j + 1, _, by omega, by go_num, rfl, by rw [HST.out, HU2.out]; exact HG6.out, HB6.out⟩
          case measure => simp [intOf]; omega
        · rw [if_pos (by simp)] at HU2
          go_wp2_with fail
          go_roundw
          case rel => exact ⟨j + 1, _, by omega, by go_num, rfl, by rw [HST.out, HU2.out]; exact HG5.out, HB5.out⟩
          case measure => simp [intOf]; omega
      · rw [if_pos (by simp)] at HU1
        have HU1' := HU1.out
        subst HU1'
        have HGK := hid HG2.out
        have HBK := hid HB2'.out
        go_wp2_with fail
        go_still_tail 6, (by kernel_rfl)
        go_wp2_with fail
        refine (HQ2.out _ ((below_trans HB1.out HBK.out).drew)).mono ?_
        rintro e w5 ⟨rfl, hb5⟩
        have HB5 := hid (HBK.out.trans (((Below.refl (w2).heap.size w2).drew.trans (hb5.mono ((Below.refl (w2).heap.size w2).drew).size)).mono HBK.out.size))
        have HG5 := hid (HGK.out.below (below_trans (below_drew w2) hb5))
        have hcell5 := cell_keep (cell_keep hcell2 (below_drew w2)) hb5
        have hs5 := HB5.out.size
        clear hb5 hcell2 y0 y1 y2 y3 y4 y5 y6 y7 y8
        have HWS := hid (show w.heap.size ≤ w5.heap.size from Nat.le_trans HB1.out.size hs5)
        cases r2
        · rw [if_neg (by simp)] at HU2
          go_wp2_with fail
          refine (l4Sorted_any w.heap.size D1 _ (-x) _ HG5.out HWS.out (by have := HUL1.out; have := HLEN.out; omega)).mono ?_
          rintro e w6 ⟨v6, rfl, hG6, hb6⟩
          have HG6 := hid hG6
          have HB6 := hid (HB5.out.trans (hb6.mono hs5))
          clear hG6 hb6 hcell5
          go_wp2_with fail
          go_roundw
          case rel => exact ⟨j + 1, _, by omega, by go_num, rfl, by rw [HST.out, HU2.out]; exact HG6.out, HB6.out⟩
          case measure => simp [intOf]; omega
        · rw [if_pos (by simp)] at HU2
          go_wp2_with fail
          go_roundw
          case rel => exact ⟨j + 1, _, by omega, by go_num, rfl, by rw [HST.out, HU2.out]; exact HG5.out, HB5.out⟩
          case measure => simp [intOf]; omega
    · have hz : L.take j = L := List.take_of_length_le (by omega)
      rw [hz] at HG
      have HFIN := hid (show GrowI w.heap.size R (.slice av' nv' capv') wr by rw [← HUL.out]; exact HG.out)
      clear hz
      go_wp2_with fail
      go_ret
      exact ⟨_, rfl, HFIN.out, HBW.out⟩
end Go.Proofs.YtgiimijooabioaaDoor

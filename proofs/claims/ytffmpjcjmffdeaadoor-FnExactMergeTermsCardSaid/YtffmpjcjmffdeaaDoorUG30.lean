/- At least as precise, of terms, plainly. The program's TermPrecise. Merges of terms, plainly; a list of types of the call's own, an element of which is written. -/
import Derived.Test.YtffmpjcjmffdeaaDoorUMs3
import Derived.Test.YtffmpjcjmffdeaaDoorUErA
import Derived.Test.YtffmpjcjmffdeaaDoorUTysT
import Derived.Test.YtffmpjcjmffdeaaDoorUG6
import Derived.Deep.RegionHeld3
import Derived.Test.YtffmpjcjmffdeaaDoorUPkA
import Derived.Test.YtffmpjcjmffdeaaDoorUG15
namespace Go.Proofs.YtffmpjcjmffdeaaDoor
open Go.RowKit


mutual
/-- A term with the unknown type for each of its types. -/
def ers : Tm → Tm
  | .mk k nm num ty fr lb ts => .mk k nm num (if hasTy k then .mk 1 [] else ty) fr lb (ersL ts)
def ersL : List Tm → List Tm
  | [] => []
  | t :: ts => ers t :: ersL ts
end

mutual
theorem wiT_ers : ∀ (t : Tm) (n : Nat), wiT (fun _ => .mk 1 []) n t = ers t
  | .mk k nm num ty fr lb ts, n => by simp only [wiT, ers, wiL_ers ts]
theorem wiL_ers : ∀ (ts : List Tm) (n : Nat), wiL (fun _ => .mk 1 []) n ts = ersL ts
  | [], _ => by simp only [wiL, ersL]
  | t :: ts, n => by simp only [wiL, ersL, wiT_ers t, wiL_ers ts]
end

mutual
theorem ers_tys : ∀ (t u : Tm), tmEq (ers t) (ers u) = true → (tysOf t).length = (tysOf u).length
  | .mk k nm num ty fr lb ts, .mk k' nm' num' ty' fr' lb' us, h => by
    simp only [ers, tmEq, Bool.and_eq_true, decide_eq_true_eq] at h
    obtain ⟨⟨⟨⟨⟨⟨rfl, _⟩, _⟩, _⟩, _⟩, _⟩, h3⟩ := h
    simp only [tysOf, List.length_append, ersL_tys ts us h3]
    split <;> simp
theorem ersL_tys : ∀ (ts us : List Tm), tmEqL (ersL ts) (ersL us) = true → (tysL ts).length = (tysL us).length
  | [], [], _ => rfl
  | [], _ :: _, h => by simp [ersL, tmEqL] at h
  | _ :: _, [], h => by simp [ersL, tmEqL] at h
  | t :: ts, u :: us, h => by
    simp only [ersL, tmEqL, Bool.and_eq_true] at h
    simp only [tysL, List.length_append, ers_tys t u h.1, ersL_tys ts us h.2]
end

theorem vldM_shp {t : Tm} (h : vldM t = true) : shpM 12 t = true := by
  unfold vldM at h
  simp only [Bool.and_eq_true] at h
  exact h.1

end Go.Proofs.YtffmpjcjmffdeaaDoor

namespace Go.Proofs.YtffmpjcjmffdeaaDoor
open Go.RowKit

mutual
theorem ers_sz : ∀ t : Tm, (ers t).sz ≤ t.sz
  | .mk k nm num ty fr lb ts => by
    have h1 := (ersL_sz ts).1
    have h2 := (ersL_sz ts).2
    have h3 : (Ty.mk 1 []).cnt = 0 := by simp [Ty.cnt, cntL]
    simp only [ers, Tm.sz]
    split
    · rw [h3]; omega
    · omega
theorem ersL_sz : ∀ ts : List Tm, szML (ersL ts) ≤ szML ts ∧ (ersL ts).length = ts.length
  | [] => by simp [ersL]
  | t :: ts => by
    have h1 := ers_sz t
    have h2 := (ersL_sz ts).1
    have h3 := (ersL_sz ts).2
    simp only [ersL, szML, List.length_cons]
    omega
end

theorem erT_sz {t : Tm} (h : vldM t = true) : (erT t).sz ≤ t.sz := by
  simp only [erT, h, if_true, wiT_ers]
  exact ers_sz t

set_option linter.unusedVariables false in
set_option linter.unusedSimpArgs false in
set_option maxHeartbeats 8000000 in
set_option maxRecDepth 100000 in
theorem implSameErasure (t u : Tm) (v1 v2 : Value) (f1 f2 : List Nat) (w : World) (hz1 : t.sz ≤ 1048576) (hz2 : u.sz ≤ 1048576) (hF : Forms w) (h1 : t.At w v1 f1) (h2 : u.At w v2 f2) :
    Calls Tryd.prog 76 #[v1, v2] w fun e w' => e = .returned (.bool (vldM t && vldM u && tmEq (erT t) (erT u))) ∧ Below w.heap.size w w' := by
  obtain ⟨k, nm, num, k1, n1, a1, c1, k2, n2, a2, c2, lb, n3, a3, c3, rfl⟩ := h1.agg
  obtain ⟨k', nm', num', k1', n1', a1', c1', k2', n2', a2', c2', lb', n3', a3', c3', rfl⟩ := h2.agg
  have hb0 : Below w.heap.size w ((w.alloc (Obj.cells #[.int .i64 k, .string nm, .int .i64 num, .int .i64 k1, .slice a1 n1 c1, .int .i64 k2, .slice a2 n2 c2, .int .i64 lb, .slice a3 n3 c3] 35)).alloc (Obj.cells #[.int .i64 k', .string nm', .int .i64 num', .int .i64 k1', .slice a1' n1' c1', .int .i64 k2', .slice a2' n2' c2', .int .i64 lb', .slice a3' n3' c3'] 35)) := ((Below.refl _ _).alloc (Nat.le_refl _) _).alloc (by simp) _
  have HA := hid (h1.below hb0)
  have HU := hid (h2.below hb0)
  have HB := hid hb0
  have HE1 := hid (implEraseTerm t _ _ _ hz1 (hF.below hb0) (h1.below hb0))
  have HE2 := hid (fun (w' : World) (h : Below ((w.alloc (Obj.cells #[.int .i64 k, .string nm, .int .i64 num, .int .i64 k1, .slice a1 n1 c1, .int .i64 k2, .slice a2 n2 c2, .int .i64 lb, .slice a3 n3 c3] 35)).alloc (Obj.cells #[.int .i64 k', .string nm', .int .i64 num', .int .i64 k1', .slice a1' n1' c1', .int .i64 k2', .slice a2' n2' c2', .int .i64 lb', .slice a3' n3' c3'] 35)).heap.size ((w.alloc (Obj.cells #[.int .i64 k, .string nm, .int .i64 num, .int .i64 k1, .slice a1 n1 c1, .int .i64 k2, .slice a2 n2 c2, .int .i64 lb, .slice a3 n3 c3] 35)).alloc (Obj.cells #[.int .i64 k', .string nm', .int .i64 num', .int .i64 k1', .slice a1' n1' c1', .int .i64 k2', .slice a2' n2' c2', .int .i64 lb', .slice a3' n3' c3'] 35)) w') => implEraseTerm u _ _ w' hz2 ((hF.below hb0).below h) ((h2.below hb0).below h))
  have HSZ := hid (show vldM t = true → (erT t).sz ≤ 8388608 from fun h => by have := erT_sz h; omega)
  obtain ⟨cc, hcc⟩ : ∃ cc, cc = (vldM t && vldM u && tmEq (erT t) (erT u)) := ⟨_, rfl⟩
  rw [← hcc]
  have HCC := hid hcc
  clear hcc
  generalize erT t = et at *
  generalize erT u = eu at *
  generalize vldM t = r1 at *
  generalize vldM u = r2 at *
  obtain ⟨hxA, hxB⟩ := two_outMm (Below.refl ((w.alloc (Obj.cells #[.int .i64 k, .string nm, .int .i64 num, .int .i64 k1, .slice a1 n1 c1, .int .i64 k2, .slice a2 n2 c2, .int .i64 lb, .slice a3 n3 c3] 35)).alloc (Obj.cells #[.int .i64 k', .string nm', .int .i64 num', .int .i64 k1', .slice a1' n1' c1', .int .i64 k2', .slice a2' n2' c2', .int .i64 lb', .slice a3' n3' c3'] 35)).heap.size ((w.alloc (Obj.cells #[.int .i64 k, .string nm, .int .i64 num, .int .i64 k1, .slice a1 n1 c1, .int .i64 k2, .slice a2 n2 c2, .int .i64 lb, .slice a3 n3 c3] 35)).alloc (Obj.cells #[.int .i64 k', .string nm', .int .i64 num', .int .i64 k1', .slice a1' n1' c1', .int .i64 k2', .slice a2' n2' c2', .int .i64 lb', .slice a3' n3' c3'] 35)))
  have HXA := hid hxA
  have HXB := hid hxB
  obtain ⟨x0, x1, x2, x3, x4, x5, x6, x7, x8⟩ := cells9 hxA
  obtain ⟨y0, y1, y2, y3, y4, y5, y6, y7, y8⟩ := cells9 hxB
  clear h1 h2 hb0 hF hxA hxB
  go_enter Tryd.func76, Tryd.ntmps76
  go_wp2_with fail
  refine HE1.out.mono ?_
  rintro e w1 ⟨va, fa, rfl, hata, hfa, hb1⟩
  obtain ⟨kp, nmp, nump, k1p, n1p, a1p, c1p, k2p, n2p, a2p, c2p, lbp, n3p, a3p, c3p, rfl⟩ := hata.agg
  have hal1 : Below w1.heap.size w1 (w1.alloc (Obj.cells #[.int .i64 kp, .string nmp, .int .i64 nump, .int .i64 k1p, .slice a1p n1p c1p, .int .i64 k2p, .slice a2p n2p c2p, .int .i64 lbp, .slice a3p n3p c3p] 35)) := (Below.refl _ _).alloc (Nat.le_refl _) _
  have HB1 := hid (below_trans hb1 hal1)
  have HATA := hid (hata.below hal1)
  have HFA := hid (hfa.below hal1)
  replace x0 := cell_keep x0 hb1
  replace x1 := cell_keep x1 hb1
  replace x2 := cell_keep x2 hb1
  replace x3 := cell_keep x3 hb1
  replace x4 := cell_keep x4 hb1
  replace x5 := cell_keep x5 hb1
  replace x6 := cell_keep x6 hb1
  replace x7 := cell_keep x7 hb1
  replace x8 := cell_keep x8 hb1
  replace y0 := cell_keep y0 hb1
  replace y1 := cell_keep y1 hb1
  replace y2 := cell_keep y2 hb1
  replace y3 := cell_keep y3 hb1
  replace y4 := cell_keep y4 hb1
  replace y5 := cell_keep y5 hb1
  replace y6 := cell_keep y6 hb1
  replace y7 := cell_keep y7 hb1
  replace y8 := cell_keep y8 hb1
  have x0' := cell_keep x0 hal1
  have x1' := cell_keep x1 hal1
  have x2' := cell_keep x2 hal1
  have x3' := cell_keep x3 hal1
  have x4' := cell_keep x4 hal1
  have x5' := cell_keep x5 hal1
  have x6' := cell_keep x6 hal1
  have x7' := cell_keep x7 hal1
  have x8' := cell_keep x8 hal1
  have y0' := cell_keep y0 hal1
  have y1' := cell_keep y1 hal1
  have y2' := cell_keep y2 hal1
  have y3' := cell_keep y3 hal1
  have y4' := cell_keep y4 hal1
  have y5' := cell_keep y5 hal1
  have y6' := cell_keep y6 hal1
  have y7' := cell_keep y7 hal1
  have y8' := cell_keep y8 hal1
  clear hata hfa hb1 hal1
  go_wp2_with fail
  refine (HE2.out _ HB1.out).mono ?_
  rintro e w2 ⟨vb, fb, rfl, hatb, hfb, hb2⟩
  obtain ⟨kq, nmq, numq, k1q, n1q, a1q, c1q, k2q, n2q, a2q, c2q, lbq, n3q, a3q, c3q, rfl⟩ := hatb.agg
  have hal2 : Below w2.heap.size w2 (w2.alloc (Obj.cells #[.int .i64 kq, .string nmq, .int .i64 numq, .int .i64 k1q, .slice a1q n1q c1q, .int .i64 k2q, .slice a2q n2q c2q, .int .i64 lbq, .slice a3q n3q c3q] 35)) := (Below.refl _ _).alloc (Nat.le_refl _) _
  have hb12 := below_trans hb2 hal2
  have HBX := hid (below_trans HB.out (below_trans HB1.out hb12))
  have HBZ := hid (below_trans HB1.out hb12)
  have HATX := hid (HATA.out.below hb12)
  have HFX := hid (HFA.out.below hb12)
  have HATY := hid (hatb.below hal2)
  have HFY := hid (hfb.below hal2)
  have hA := blk (HXA.out) HBZ.out
  have hB := blk (HXB.out) HBZ.out
  have hP := blk (alloc_new w1 (Obj.cells #[.int .i64 kp, .string nmp, .int .i64 nump, .int .i64 k1p, .slice a1p n1p c1p, .int .i64 k2p, .slice a2p n2p c2p, .int .i64 lbp, .slice a3p n3p c3p] 35)) hb12
  have hQ := alloc_new w2 (Obj.cells #[.int .i64 kq, .string nmq, .int .i64 numq, .int .i64 k1q, .slice a1q n1q c1q, .int .i64 k2q, .slice a2q n2q c2q, .int .i64 lbq, .slice a3q n3q c3q] 35)
  clear x0 x1 x2 x3 x4 x5 x6 x7 x8 y0 y1 y2 y3 y4 y5 y6 y7 y8 x0' x1' x2' x3' x4' x5' x6' x7' x8' y0' y1' y2' y3' y4' y5' y6' y7' y8' hatb hfb hb2 hb12 hal2
  obtain ⟨X, hXd⟩ : ∃ X, X = (w2.alloc (Obj.cells #[.int .i64 kq, .string nmq, .int .i64 numq, .int .i64 k1q, .slice a1q n1q c1q, .int .i64 k2q, .slice a2q n2q c2q, .int .i64 lbq, .slice a3q n3q c3q] 35)) := ⟨_, rfl⟩
  have HXD := hid hXd
  rw [← hXd] at HBX HBZ HATX HFX HATY HFY hA hB hP hQ
  clear hXd
  obtain ⟨x0, x1, x2, x3, x4, x5, x6, x7, x8⟩ := cells9 hA
  obtain ⟨y0, y1, y2, y3, y4, y5, y6, y7, y8⟩ := cells9 hB
  obtain ⟨ga0, ga1, ga2, ga3, ga4, ga5, ga6, ga7, ga8⟩ := cells9 hP
  obtain ⟨gb0, gb1, gb2, gb3, gb4, gb5, gb6, gb7, gb8⟩ := cells9 hQ
  clear hA hB hP hQ HE1 HE2 HB1 HXA HXB HATA HFA
  cases r1
  · have HT := hid (show cc = false from HCC.out)
    go_wp2_with fail
    rw [← HXD.out]
    go_ret
    exact ⟨ret_b (by rw [HT.out]), HBX.out⟩
  cases r2
  · have HT := hid (show cc = false from HCC.out)
    go_wp2_with fail
    rw [← HXD.out]
    go_ret
    exact ⟨ret_b (by rw [HT.out]), HBX.out⟩
  have HTS := hid (fun (w' : World) (h : Below X.heap.size X w') => implTermSame et eu _ _ _ _ w' (HSZ.out rfl) (HATX.out.below h) (HATY.out.below h) (fun x hx => Raw.belowMm (Fresh.rawM HATX.out HFX.out x hx) h) (fun x hx => Raw.belowMm (Fresh.rawM HATY.out HFY.out x hx) h))
  have HT := hid (show cc = tmEq et eu from HCC.out)
  have hxd := HXD.out
  clear HXD
  subst hxd
  go_wp2_with fail
  refine (HTS.out _ (Below.refl _ _)).mono ?_
  rintro e w3 ⟨rfl, hy0⟩
  go_wp2_with fail
  go_ret
  exact ⟨ret_b (by rw [HT.out]), below_trans HBX.out hy0⟩

end Go.Proofs.YtffmpjcjmffdeaaDoor

namespace Go.Proofs.YtffmpjcjmffdeaaDoor
open Go.RowKit

theorem mem_tysLMg : ∀ {ts : List Tm} {u : Ty}, u ∈ tysL ts → ∃ t ∈ ts, u ∈ tysOf t
  | t :: ts, u, h => by
    simp only [tysL] at h
    rcases List.mem_append.1 h with h | h
    · exact ⟨t, by simp, h⟩
    · obtain ⟨t', ht, hu⟩ := mem_tysLMg h
      exact ⟨t', by simp [ht], hu⟩

theorem tysOf_vldMg : ∀ (d : Nat) (t : Tm), shpM d t = true → ∀ u ∈ tysOf t, vld u = true
  | 0, _, h => by simp [shpM] at h
  | d + 1, .mk k nm num ty fr lb ts, h => by
    intro u hu
    simp only [shpM, Bool.and_eq_true, List.all_eq_true] at h
    obtain ⟨⟨⟨_, _⟩, ho⟩, hk⟩ := h
    simp only [tysOf] at hu
    rcases List.mem_append.1 hu with hu | hu
    · simp only [ownM, Bool.and_eq_true] at ho
      split at hu
      · rename_i hk5
        have := ho.1.1.2
        rw [if_pos (by omega)] at this
        have e : u = ty := by simpa using hu
        rw [e]; exact this
      · cases hu
    · obtain ⟨t, ht, hu⟩ := mem_tysLMg hu
      exact tysOf_vldMg d t (hk t ht) u hu

theorem tyLst_vldMg {t : Tm} {u : Ty} (h : u ∈ tyLst t) : vld u = true := by
  unfold tyLst at h
  split at h
  · rename_i hv
    exact tysOf_vldMg 12 t (vldM_shp hv) u h
  · cases h

/-- Both are terms and differ in types only. -/
def sameE (a b : Tm) : Bool := vldM a && vldM b && tmEq (erT a) (erT b)

theorem sameE_len {a b : Tm} (h : sameE a b = true) : (tyLst a).length = (tyLst b).length := by
  simp only [sameE, Bool.and_eq_true] at h
  obtain ⟨⟨h1, h2⟩, h3⟩ := h
  simp only [erT, h1, h2, if_true, wiT_ers] at h3
  simp only [tyLst, h1, h2, if_true]
  exact ers_tys a b h3

def nthT (L : List Ty) (i : Nat) : Ty := L.getD i (.mk 0 [])
theorem nthT_eq {L : List Ty} {i : Nat} (h : i < L.length) : nthT L i = L[i] := by simp [nthT, h]

/-- Each type of one list is consistent with its partner. -/
def allC (A B : List Ty) : Bool := (List.range A.length).all fun i => consOf (nthT A i) (nthT B i)
/-- The meets of two lists. -/
def mts (A B : List Ty) : List Ty := (List.range A.length).map fun i => meetOf (nthT A i) (nthT B i)
/-- The list behind j steps. -/
def curT (A B : List Ty) (j : Nat) : List Ty := (mts A B).take j ++ A.drop j

theorem mts_len (A B : List Ty) : (mts A B).length = A.length := by simp [mts]
theorem curT_len (A B : List Ty) {j : Nat} (h : j ≤ A.length) : (curT A B j).length = A.length := by
  simp [curT, mts_len, List.length_take, List.length_drop]
  omega
theorem curT_zero (A B : List Ty) : curT A B 0 = A := by simp [curT]
theorem curT_all (A B : List Ty) : curT A B A.length = mts A B := by
  simp [curT, List.take_of_length_le (Nat.le_of_eq (mts_len A B))]
theorem curT_get (A B : List Ty) {j : Nat} (h : j < A.length) (h' : j < (curT A B j).length) : (curT A B j)[j] = A[j] := by
  have h1 : ((mts A B).take j).length = j := by rw [List.length_take, mts_len]; omega
  simp only [curT]
  rw [List.getElem_append_right (by omega)]
  simp [h1]
theorem curT_set (A B : List Ty) {j : Nat} (h : j < A.length) : (curT A B j).set j (meetOf (nthT A j) (nthT B j)) = curT A B (j + 1) := by
  have h1 : ((mts A B).take j).length = j := by rw [List.length_take, mts_len]; omega
  have h2 : j < (mts A B).length := by rw [mts_len]; exact h
  simp only [curT]
  rw [List.set_append_right _ _ (by omega), h1, Nat.sub_self, List.drop_eq_getElem_cons h, List.set_cons_zero, List.take_succ_eq_append_getElem h2, List.append_assoc]
  simp [mts]

theorem allC_false {A B : List Ty} {j : Nat} (h : j < A.length) (hc : consOf (nthT A j) (nthT B j) = false) : allC A B = false := by
  unfold allC
  rw [List.all_eq_false]
  exact ⟨j, List.mem_range.2 h, by simp [hc]⟩
theorem allC_true {A B : List Ty} (h : ∀ i, i < A.length → consOf (nthT A i) (nthT B i) = true) : allC A B = true := by
  unfold allC
  rw [List.all_eq_true]
  exact fun i hi => h i (List.mem_range.1 hi)

theorem mts_cnt {A B : List Ty} (h : allC A B = true) : ∀ u ∈ mts A B, vld u = true := by
  intro u hu
  simp only [mts, List.mem_map, List.mem_range] at hu
  obtain ⟨i, hi, rfl⟩ := hu
  unfold allC at h
  rw [List.all_eq_true] at h
  exact (meetOf_glb _ _ (h i (List.mem_range.2 hi))).1

/-- The document's MergeTerms. -/
def mgC (a b : Tm) : Bool := sameE a b && allC (tyLst a) (tyLst b)
def mgT (a b : Tm) : Tm := if mgC a b then wiM (mts (tyLst a) (tyLst b)) a else zTm
def mgB (a b : Tm) : Bool := mgC a b && wiOk (mts (tyLst a) (tyLst b)) a

theorem Elem.keep {w w' : World} {b o i : Nat} {t : Ty} {f : List Nat} (h : Elem w b o i t f) (hb : Below w.heap.size w w') : Elem w' b o i t f := by
  obtain ⟨k, s, c0, c1, hs, e⟩ := h
  exact ⟨k, s, cell_keep c0 hb, cell_keep c1 hb, hs.below hb, e⟩

theorem Elem.at {w : World} {b o i : Nat} {t : Ty} {f : List Nat} (h : Elem w b o i t f) : ∃ k n a c, w.cell? ⟨b, o + i * 2, none⟩ = some (.int .i64 k) ∧ w.cell? ⟨b, o + i * 2 + 1, none⟩ = some (.slice a n c) ∧ t.At w (.agg #[.int .i64 k, .slice a n c]) f := by
  obtain ⟨k, s, c0, c1, hs, e⟩ := h
  obtain ⟨a, c, rfl⟩ := hs.shape
  refine ⟨k, _, a, c, c0, c1, ?_⟩
  rw [e]
  exact Ty.at_mk.2 ⟨_, rfl, hs⟩

/-- The element j of a list in a row. -/
theorem row_get {w : World} {ts : List Ty} {b o : Nat} {f : List Nat} (hl : Ty.AtL w ts b o f) (j : Nat) (hj : j < ts.length) : ∃ k n a c g, w.cell? ⟨b, o + j * 2, none⟩ = some (.int .i64 k) ∧ w.cell? ⟨b, o + j * 2 + 1, none⟩ = some (.slice a n c) ∧ (ts[j]).At w (.agg #[.int .i64 k, .slice a n c]) g := by
  obtain ⟨fps, hfl, rfl, hel⟩ := atL_idx hl
  obtain ⟨k, n, a, c, h⟩ := (hel j hj (by omega)).at
  exact ⟨k, n, a, c, _, h⟩

theorem SlAt.onlyMg {w w' : World} {ts : List Ty} {s : Value} {fp g : List Nat} (h : SlAt w ts s fp) (hg : Only g w w') (hd : ∀ x ∈ fp, x ∉ g) : SlAt w' ts s fp :=
  h.congr fun x hx o' => World.cell?_of_block (w := w) (a := ⟨x, o', none⟩) (hg.block x (h.lt x hx) (hd x hx))
theorem Tm.At.onlyMg {w w' : World} {t : Tm} {v : Value} {fp g : List Nat} (h : t.At w v fp) (hg : Only g w w') (hd : ∀ x ∈ fp, x ∉ g) : t.At w' v fp :=
  h.congr fun x hx o' => World.cell?_of_block (w := w) (a := ⟨x, o', none⟩) (hg.block x (h.lt x hx) (hd x hx))
theorem onlyBelow {B : Nat} {a w w' : World} {f : List Nat} (h : Below B a w) (hon : Only f w w') (hB : B ≤ w.heap.size) (hf : ∀ b ∈ f, B ≤ b) : Below B a w' := h.trans (hon.below hf hB)

/-- An element written. -/
theorem row_set {w w1 : World} {ts : List Ty} {b o j : Nat} {f g : List Nat} {T : Ty} {x y : Value} (hl : Ty.AtL w ts b o f) (hb : Below w.heap.size w w1) (hbf : b ∉ f) (hj : j < ts.length) (hT : T.At w1 (.agg #[x, y]) g) (hbg : b ∉ g) :
    ∃ f', Ty.AtL ((w1.setCell ⟨b, o + j * 2, none⟩ x).setCell ⟨b, o + j * 2 + 1, none⟩ y) (ts.set j T) b o f' ∧ b ∉ f' := by
  obtain ⟨fps, hfl, rfl, hel⟩ := atL_idx hl
  have hne : ∀ k ∈ g, k ≠ b := fun k hk e => hbg (e ▸ hk)
  refine ⟨(fps.set j g).flatten, idx_atL (by simp [hfl]) (fun i h h' => ?_), ?_⟩
  · have hi : i < ts.length := by simpa using h
    have hi' : i < fps.length := by omega
    by_cases hij : i = j
    · subst hij
      obtain ⟨k, s, c0, c1, _, _⟩ := (hel i hi hi').keep hb
      simp only [List.getElem_set_self]
      refine elem_of (v0 := x) (v1 := y) ?_ ?_ ((hT.setCell hne _).setCell hne _)
      · rw [cell_setCell_other (by omega)]
        exact cell_setCell_self c0 _
      · exact cell_setCell_self ((cell_setCell_other (by omega) _).trans c1) _
    · simp only [List.getElem_set_ne (fun e => hij e.symm)]
      obtain ⟨k, s, c0, c1, hs, e⟩ := (hel i hi hi').keep hb
      have hns : ∀ z ∈ fps[i], z ≠ b := fun z hz he => hbf (he ▸ flatten_sub hi' z hz)
      exact ⟨k, s, (cell_setCell_other (by omega) _).trans ((cell_setCell_other (by omega) _).trans c0), (cell_setCell_other (by omega) _).trans ((cell_setCell_other (by omega) _).trans c1), (hs.setCell hns _).setCell hns _, e⟩
  · intro hm
    obtain ⟨l, hl', hbl⟩ := List.mem_flatten.1 hm
    rcases List.mem_or_eq_of_mem_set hl' with h | h
    · exact hbf (List.mem_flatten.2 ⟨l, h, hbl⟩)
    · exact hbg (h ▸ hbl)
end Go.Proofs.YtffmpjcjmffdeaaDoor

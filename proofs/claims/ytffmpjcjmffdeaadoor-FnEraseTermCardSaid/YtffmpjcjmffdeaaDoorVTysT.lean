/- The program's TermTypes: the visit of one type, and of a term. The program's TermTypes: eachType and TermTypes. The program's TermTypes. -/
import Derived.Test.YtffmpjcjmffdeaaDoorVTysS
import Derived.Test.YtffmpjcjmffdeaaDoorVG14
import Derived.Test.YtffmpjcjmffdeaaDoorVG12
namespace Go.Proofs.YtffmpjcjmffdeaaDoor
open Go.RowKit

set_option maxRecDepth 100000 in
set_option maxHeartbeats 8000000 in
theorem visit_any (M B : Nat) (ds : List Ty) (v : Value) (t : Ty) (tv : Value) (fp : List Nat) (w : World) (hL : ListAt M B ds v w) (hat : t.At w tv fp) (hwf : wf t) (hBw : B ≤ w.heap.size) (hlen : ds.length ≤ 4194303) :
    Calls Tryd.prog 90 #[tv, .pointer (some ⟨M, 0, none⟩)] w fun e w' => (∃ r, e = .returned r) ∧ ∃ v', ListAt M B (ds ++ [t]) v' w' ∧ Lr M w w' v v' := by
  obtain ⟨k, m, a, cap, rfl⟩ := hat.agg
  obtain ⟨g, hO, hG, hMB⟩ := hL
  obtain ⟨av, capv, rfl⟩ := hG.shape
  obtain ⟨i0, hi0, hz0, hz1, hz2⟩ := info_parts (P := Tryd.prog) (e := 32) Tryd.infoElem
  have hb0 : Below w.heap.size w (w.alloc (Obj.cells #[.int .i64 k, .slice a m cap] 32)) := (Below.refl _ _).alloc (Nat.le_refl _) _
  have hat1 := hat.below hb0
  have hG1 := hG.below hb0
  have hO1 := blk hO hb0
  have hOWN := hG1.own_ge
  have HOWN := hid hOWN
  have HO1 := hid hO1
  have h63 : ds.length + 1 ≤ maxLen := by unfold maxLen; omega
  have hby : (ds.length + 1) * 32 ≤ 140737488355328 := by omega
  have hMlt : M < w.heap.size := by omega
  have x0 : ((w.alloc (Obj.cells #[.int .i64 k, .slice a m cap] 32))).cell? ⟨w.heap.size, 0, none⟩ = some (.int .i64 k) := by rw [cell_of_block (alloc_new _ _)]; rfl
  have x1 : ((w.alloc (Obj.cells #[.int .i64 k, .slice a m cap] 32))).cell? ⟨w.heap.size, 1, none⟩ = some (.slice a m cap) := by rw [cell_of_block (alloc_new _ _)]; rfl
  have y0 : ((w.alloc (Obj.cells #[.int .i64 k, .slice a m cap] 32))).cell? ⟨M, 0, none⟩ = some (.slice av ds.length capv) := by rw [cell_of_block hO1]; rfl
  have hbD : Below ((w.alloc (Obj.cells #[.int .i64 k, .slice a m cap] 32))).heap.size (w.alloc (Obj.cells #[.int .i64 k, .slice a m cap] 32)) (((w.alloc (Obj.cells #[.int .i64 k, .slice a m cap] 32))).drew.alloc (Obj.cells #[.int .i64 0, .slice none 0 0] 32)) := (below_drew _).alloc (by simp) _
  have xD0 := cell_keep x0 hbD
  have xD1 := cell_keep x1 hbD
  have yD := cell_keep y0 hbD
  have hnn : (ds.length : Int) < (ds.length : Int) + 1 := by omega
  clear hat hG hO hO1 hOWN
  go_enter Tryd.func90, Tryd.ntmps90
  go_wp2_with fail
  go_region_law (first | (go_simp; go_at_call 63; refine (copyType_from (W0 := (w.alloc (Obj.cells #[.int .i64 k, .slice a m cap] 32))) (by first | exact below_drew _ | exact (below_drew _).alloc (by simp) _) hat1 hwf).mono ?_; rintro e w1 ⟨⟨v1, f', rfl, hat', hf', hb1⟩, hU⟩; obtain ⟨kk, nn, aa, cc, rfl⟩ := hat'.agg; have hb2 := below_trans hU hb1; have y1 := cell_keep y0 hb2; have y2 := cell_keep y1 ((Below.refl w1.heap.size w1).alloc (Nat.le_refl _) (Obj.cells #[.int .i64 0, .slice none 0 0] 32)); obtain ⟨xs, ho1, ha1, hf1, hn1⟩ := hG1.below hb2; have hM1 : B ≤ w1.heap.size := Nat.le_trans hBw (Nat.le_trans hb0.size hb2.size)) | (refine step_append_lies _ (by rfl) _ _ _ (by rfl) B 32 i0 _ 2 32 Tryd.underElems hi0 hz0 hz1 hz2 rfl (by omega) (.slice av ds.length capv) ds.length xs (by rfl) (ho1.alloc _) ⟨w1.heap.size, 0, none⟩ 1 1 [.int .i64 0, .slice none 0 0] (by rfl) (by rfl) (World.news_of_block (cs := #[.int .i64 0, .slice none 0 0]) (t := 32) (fr := (0, 0)) (heap_alloc_new w1 _)) (by simp [Value.oneCell']) (by omega) h63 hby (by simp; omega) (w1.heap.size + 1) (by simp) ?_; intro g3 cp w3 hown3 hgrow hat3 hlt3; have hw2 : Below w1.heap.size w1 (w1.alloc (Obj.cells #[.int .i64 0, .slice none 0 0] 32)) := (Below.refl _ _).alloc (Nat.le_refl _) _; have hat4 : (Value.slice av ds.length capv).ownBlock = some g3 ∨ g3 = (w1.alloc (Obj.cells #[.int .i64 0, .slice none 0 0] 32)).heap.size := (by simpa using hat3); obtain ⟨⟨u0, u1, k0, k1⟩, kz⟩ := own_last hown3; have hMg : M ≠ g3 := mne HOWN.out hMB hat4 (Nat.lt_of_lt_of_le hMlt (Nat.le_trans hb0.size (Nat.le_trans hb2.size hw2.size))); have m0 := m_cell hgrow HOWN.out hMB y2; have mA : ∀ x y, ((w3.setCell ⟨g3, ds.length * 2, none⟩ x).setCell ⟨g3, ds.length * 2 + 1, none⟩ y).cell? ⟨M, 0, none⟩ = some (.slice av ds.length capv) := fun x y => (cell_setCell_ne (w3.setCell ⟨g3, ds.length * 2, none⟩ x) ⟨g3, ds.length * 2 + 1, none⟩ y M 0 hMg).trans ((cell_setCell_ne w3 ⟨g3, ds.length * 2, none⟩ x M 0 hMg).trans m0); have mZ : ∀ x y, ((w3.setCell ⟨g3, ds.length * 2, none⟩ x).setCell ⟨g3, ds.length * 2 + 1, none⟩ y).frozen? ⟨M, 0, none⟩ = false := fun x y => (frozen_setCell (w3.setCell ⟨g3, ds.length * 2, none⟩ x) ⟨g3, ds.length * 2 + 1, none⟩ y M 0).trans ((frozen_setCell w3 ⟨g3, ds.length * 2, none⟩ x M 0).trans (m_frozen hgrow HOWN.out hMB (blk (blk HO1.out hb2) hw2))); have mF := m_frozen hgrow HOWN.out hMB (blk (blk HO1.out hb2) hw2); have kM0 := fun (u : Value) => (cell_setCell_ne w3 ⟨M, 0, none⟩ u g3 (ds.length * 2) hMg.symm).trans k0; have kM1 := fun (u : Value) => (cell_setCell_ne w3 ⟨M, 0, none⟩ u g3 (ds.length * 2 + 1) hMg.symm).trans k1; have kMz := fun (u : Value) (o : Nat) => (frozen_setCell w3 ⟨M, 0, none⟩ u g3 o).trans (kz o)) | (refine step_append_lies _ (by rfl) _ _ _ (by rfl) B 32 i0 _ 2 32 Tryd.underElems hi0 hz0 hz1 hz2 rfl (by omega) (.slice av ds.length capv) ds.length xs (by rfl) ho1 ⟨w.heap.size + 1, 0, none⟩ 1 1 [.int .i64 0, .slice none 0 0] (by rfl) (by rfl) (World.news_of_block (cs := #[.int .i64 0, .slice none 0 0]) (t := 32) (fr := (0, 0)) (news_in hb1)) (by simp [Value.oneCell']) (by omega) h63 hby (by omega) w1.heap.size (by rfl) ?_; intro g3 cp w3 hown3 hgrow hat4 hlt3; have hw2 : Below w1.heap.size w1 w1 := Below.refl _ _; obtain ⟨⟨u0, u1, k0, k1⟩, kz⟩ := own_last hown3; have hMg : M ≠ g3 := mne HOWN.out hMB hat4 (Nat.lt_of_lt_of_le hMlt (Nat.le_trans hb0.size (Nat.le_trans hb2.size hw2.size))); have m0 := m_cell hgrow HOWN.out hMB y1; have mA : ∀ x y, ((w3.setCell ⟨g3, ds.length * 2, none⟩ x).setCell ⟨g3, ds.length * 2 + 1, none⟩ y).cell? ⟨M, 0, none⟩ = some (.slice av ds.length capv) := fun x y => (cell_setCell_ne (w3.setCell ⟨g3, ds.length * 2, none⟩ x) ⟨g3, ds.length * 2 + 1, none⟩ y M 0 hMg).trans ((cell_setCell_ne w3 ⟨g3, ds.length * 2, none⟩ x M 0 hMg).trans m0); have mZ : ∀ x y, ((w3.setCell ⟨g3, ds.length * 2, none⟩ x).setCell ⟨g3, ds.length * 2 + 1, none⟩ y).frozen? ⟨M, 0, none⟩ = false := fun x y => (frozen_setCell (w3.setCell ⟨g3, ds.length * 2, none⟩ x) ⟨g3, ds.length * 2 + 1, none⟩ y M 0).trans ((frozen_setCell w3 ⟨g3, ds.length * 2, none⟩ x M 0).trans (m_frozen hgrow HOWN.out hMB (blk (blk HO1.out hb2) hw2))); have mF := m_frozen hgrow HOWN.out hMB (blk (blk HO1.out hb2) hw2); have kM0 := fun (u : Value) => (cell_setCell_ne w3 ⟨M, 0, none⟩ u g3 (ds.length * 2) hMg.symm).trans k0; have kM1 := fun (u : Value) => (cell_setCell_ne w3 ⟨M, 0, none⟩ u g3 (ds.length * 2 + 1) hMg.symm).trans k1; have kMz := fun (u : Value) (o : Nat) => (frozen_setCell w3 ⟨M, 0, none⟩ u g3 o).trans (kz o)))
  all_goals
    have HF := hid (visit_close HO1.out hG1 hU hb1 ha1 hf1 hn1 hat' hf' hw2 hgrow hown3 hat4 hMB (Nat.le_trans hBw hb0.size) hb0 hMlt)
    clear hb1 hU hb2 ha1 hf1 hn1 hat' hf' hw2 hgrow hown3 hat4 y1 y2 ho1 mA mZ kM0 kM1 kMz mF k0 k1 kz m0 hM1 hlt3
    try rw [setCell_comm w3 ⟨M, 0, none⟩ ⟨g3, ds.length * 2, none⟩ _ _ hMg, setCell_comm _ ⟨M, 0, none⟩ ⟨g3, ds.length * 2 + 1, none⟩ _ _ hMg]
    go_wp2_with fail
    first | go_ret | go_end0
    exact ⟨⟨_, rfl⟩, _, HF.out⟩

def EtC (t : Tm) : Prop := ∀ (M B : Nat) (ds : List Ty) (v : Value) (tv : Value) (fp : List Nat) (d : Nat) (w : World), ListAt M B ds v w → Forms w → 0 < M → t.At w tv fp → (∀ x ∈ fp, x < M) → shpM d t = true → B ≤ w.heap.size → t.sz ≤ 1048576 → ds.length + (tysOf t).length ≤ 4194303 →
  Calls Tryd.prog 89 #[tv, .func (.func 90) #[] #[.pointer (some ⟨M, 0, none⟩)]] w fun e w' => (∃ r, e = .returned r) ∧ ∃ v', ListAt M B (ds ++ tysOf t) v' w' ∧ Lr M w w' v v'

theorem forms_below {M : Nat} {w w' : World} (h : Forms w) (hb : Below M w w') (hM : 0 < M) : Forms w' := fun j hj => (hb.cell (p := ⟨0, j, none⟩) hM).trans (h j hj)

set_option linter.unusedSimpArgs false in
set_option linter.unusedSimpArgs false in
set_option linter.unusedSimpArgs false in
set_option maxRecDepth 100000 in
set_option maxHeartbeats 4000000 in
theorem eachType_of (k : Int) (nm : ByteArray) (num : Int) (ty fr : Ty) (lb : Int) (ts : List Tm) (ih : ∀ t ∈ ts, EtC t) : EtC (.mk k nm num ty fr lb ts) := by
  intro M B ds v tv fp d w hL hF hM0 hat hlt hsh hBw hsz hlen
  have HIH := hid ih
  clear ih
  cases d with
  | zero => simp [shpM] at hsh
  | succ d =>
    rw [shpM_node, Bool.and_eq_true] at hsh
    obtain ⟨hnode, hkids⟩ := hsh
    have hk : 1 ≤ k ∧ k ≤ 13 := by
      by_cases hk : 1 ≤ k ∧ k ≤ 13
      · exact hk
      · rw [nodeB_low hk] at hnode; cases hnode
    obtain ⟨jk, rfl⟩ : ∃ j : Nat, k = (j : Int) := ⟨k.toNat, by omega⟩
    have hj1 : 1 ≤ jk := by omega
    have hj2 : jk < 14 := by omega
    have hshow := (frm_shows13 jk hj1 hj2).2.2
    have hty : (jk = 5 ∨ jk = 13) → wf ty := fun h => by
      rw [nodeB_eq jk hj1 hj2, hshow] at hnode
      simp only [Bool.and_eq_true] at hnode
      have := hnode.1.1.2
      rw [if_pos (by simpa using h)] at this
      exact wf_of_vld this
    have HTY := hid hty
    have HKD := hid hkids
    obtain ⟨k1, n1, a1, c1, k2, n2, a2, c2, a3, c3, f1, f2, f3, rfl, hnm, ht1, ht2, rfl, hs⟩ := hat.parts
    have hb0 : Below w.heap.size w (w.alloc (Obj.cells #[.int .i64 (jk : Int), .string nm, .int .i64 num, .int .i64 k1, .slice a1 n1 c1, .int .i64 k2, .slice a2 n2 c2, .int .i64 lb, .slice a3 ts.length c3] 35)) := (Below.refl _ _).alloc (Nat.le_refl _) _
    have hform : ((w.alloc (Obj.cells #[.int .i64 (jk : Int), .string nm, .int .i64 num, .int .i64 k1, .slice a1 n1 c1, .int .i64 k2, .slice a2 n2 c2, .int .i64 lb, .slice a3 ts.length c3] 35))).cell? ⟨0, jk, none⟩ = some (.string (frm jk)) := cell_keep (hF jk (by omega)) hb0
    have HSHOW := hid hshow
    clear hshow
    generalize frm jk = form at *
    obtain ⟨a, cap, hss, hc, hm, hget⟩ := hs.open
    cases hss
    have HS3 := hid (show ∀ x ∈ f3, x < M from fun x hx => hlt x (by simp [hx]))
    have hblk : ∀ b o, a3 = some ⟨b, o, none⟩ → 0 < ts.length → b ∈ f3 := fun b o e hp => by
      rcases hs with ⟨h0, _⟩ | ⟨b', o', cap', f, e', _, _, _, _, rfl⟩
      · rw [h0] at hp; simp at hp
      · rw [e] at e'
        cases e'
        simp
    have HBK := hid hblk
    have HG := hid hget
    have HSZ := hid (show ts.length + szML ts ≤ 1048576 by simp only [Tm.sz] at hsz; omega)
    obtain ⟨g, hO, hGr, hMB⟩ := hL
    have HOWN := hid hGr.own_ge
    have HMB := hid hMB
    have HL := hid (show ListAt M B ds v w from ⟨g, hO, hGr, hMB⟩)
    have hMlt : M < w.heap.size := by omega
    have hMo : some w.heap.size ≠ v.ownBlock := fun e => by have := (HOWN.out _ e.symm).2; omega
    have HMO := hid hMo
    have hlt1 : ∀ x ∈ f1, x < M := fun x hx => hlt x (by simp [hx])
    obtain ⟨x0, x1, x2, x3, x4, x5, x6, x7, x8⟩ := box9 (Below.refl ((w.alloc (Obj.cells #[.int .i64 (jk : Int), .string nm, .int .i64 num, .int .i64 k1, .slice a1 n1 c1, .int .i64 k2, .slice a2 n2 c2, .int .i64 lb, .slice a3 ts.length c3] 35))).heap.size (w.alloc (Obj.cells #[.int .i64 (jk : Int), .string nm, .int .i64 num, .int .i64 k1, .slice a1 n1 c1, .int .i64 k2, .slice a2 n2 c2, .int .i64 lb, .slice a3 ts.length c3] 35)))
    clear hget hsz hblk hs hO hGr hMB hMo hlt hnode hkids hty hat
    by_cases hj : jk = 5 ∨ jk = 13
    · have hsb : showsB form 116 = true := by rw [HSHOW.out]; simpa using hj
      have HTYS := hid (show ds ++ tysOf (.mk (jk : Int) nm num ty fr lb ts) = (ds ++ [ty]) ++ tysL ts by
        have : (jk : Int) = 5 ∨ (jk : Int) = 13 := by omega
        simp only [tysOf, if_pos this, List.append_assoc])
      have HLEN := hid (show (ds ++ [ty]).length + (tysL ts).length ≤ 4194303 by
        have : (jk : Int) = 5 ∨ (jk : Int) = 13 := by omega
        simp only [tysOf, if_pos this, List.length_append, List.length_cons, List.length_nil] at hlen ⊢
        omega)
      have HWF := hid (HTY.out hj)
      have hdl : ds.length ≤ 4194303 := by omega
      clear hlen hj
      go_enter Tryd.func89, Tryd.ntmps89
      go_wp2_with fail
      refine (shows_any form 116 _).mono ?_
      rw [hsb]
      rintro e w1 ⟨rfl, rfl⟩
      go_wp2_with fail
      refine (visit_any M B ds v ty _ f1 _ (HL.out.below hb0) (ht1.below hb0) HWF.out (Nat.le_trans hBw hb0.size) hdl).mono ?_
      rintro e w2 ⟨⟨r2, rfl⟩, v2, hL2, hr2⟩
      have HL2 := hid hL2
      have HR2 := hid hr2
      have hbx := hr2.heap (k := w.heap.size) (alloc_new _ _) (by omega) HMO.out
      clear hL2 hr2 x0 x1 x2 x3 x4 x5 x6 x7 x8
      obtain ⟨x0, x1, x2, x3, x4, x5, x6, x7, x8⟩ := cells9 hbx
      clear hbx
      go_wp2_with fail
      go_loopw [18] (fun i wr => ∃ (j : Nat) (v' : Value), j ≤ ts.length ∧ i = .int .i64 j ∧ ListAt M B ((ds ++ [ty]) ++ tysL (ts.take j)) v' wr ∧ Lr M (w.alloc (Obj.cells #[.int .i64 (jk : Int), .string nm, .int .i64 num, .int .i64 k1, .slice a1 n1 c1, .int .i64 k2, .slice a2 n2 c2, .int .i64 lb, .slice a3 ts.length c3] 35)) wr v v') (fun i _ => ts.length - (intOf i).toNat)
      case atStart => exact ⟨0, _, Nat.zero_le _, rfl, by simpa [tysL] using HL2.out, HR2.out⟩
      case round =>
        obtain ⟨j, v', hj, rfl, hL4, hr4⟩ := hrel
        have hbl := hr4.below HMB.out (Nat.le_trans hBw hb0.size) (fun b hb => (HOWN.out b hb).1)
        have hBr : B ≤ wr.heap.size := Nat.le_trans (Nat.le_trans hBw hb0.size) hr4.1.2.2.2
        have HL4 := hid hL4
        have HR4 := hid hr4
        have HBL := hid hbl
        clear hL4 hr4 hbl
        by_cases hlk : j < ts.length
        · obtain ⟨b, o, q0, q1, q2, q3, q4, q5, q6, q7, q8, q9, q10, q11, q12, q13, q14, g1, hab, hblt, e0, e1, e2, e3, e4, e5, e6, e7, e8, hat, hf⟩ := HG.out j hlk
          have hbM : b < M := HS3.out b (HBK.out b o hab (by omega))
          subst hab
          have hgM : ∀ x ∈ g1, x < M := fun x hx => HS3.out x (hf x hx)
          have hat' : Tm.At wr ts[j] _ g1 := (hat.below hb0).congr fun x hx o' => HBL.out.cell (p := ⟨x, o', none⟩) (hgM x hx)
          replace e0 := (HBL.out.cell (p := ⟨b, o + j * 9, none⟩) hbM).trans (cell_keep e0 hb0)
          replace e1 := (HBL.out.cell (p := ⟨b, o + j * 9 + 1, none⟩) hbM).trans (cell_keep e1 hb0)
          replace e2 := (HBL.out.cell (p := ⟨b, o + j * 9 + 2, none⟩) hbM).trans (cell_keep e2 hb0)
          replace e3 := (HBL.out.cell (p := ⟨b, o + j * 9 + 3, none⟩) hbM).trans (cell_keep e3 hb0)
          replace e4 := (HBL.out.cell (p := ⟨b, o + j * 9 + 4, none⟩) hbM).trans (cell_keep e4 hb0)
          replace e5 := (HBL.out.cell (p := ⟨b, o + j * 9 + 5, none⟩) hbM).trans (cell_keep e5 hb0)
          replace e6 := (HBL.out.cell (p := ⟨b, o + j * 9 + 6, none⟩) hbM).trans (cell_keep e6 hb0)
          replace e7 := (HBL.out.cell (p := ⟨b, o + j * 9 + 7, none⟩) hbM).trans (cell_keep e7 hb0)
          replace e8 := (HBL.out.cell (p := ⟨b, o + j * 9 + 8, none⟩) hbM).trans (cell_keep e8 hb0)
          have htk := tysL_take hlk
          have hl1 := tysL_take_len ts (j + 1)
          have hl2 : ((ds ++ [ty]) ++ tysL (ts.take j)).length + (tysOf ts[j]).length ≤ 4194303 := by
            rw [htk] at hl1
            have := HLEN.out
            simp only [List.length_append, List.length_cons, List.length_nil] at hl1 this ⊢
            omega
          have hszj : ts[j].sz ≤ 1048576 := by have := HSZ.out; have := sz_mem (List.getElem_mem hlk); omega
          have hshj : shpM d ts[j] = true := by have := List.all_eq_true.1 HKD.out _ (List.getElem_mem hlk); exact this
          have HTK := hid htk
          have HX := hid (show Forms wr from forms_below (hF.below hb0) HBL.out hM0)
          have hkb : ∀ oo : Obj, Below wr.heap.size wr (wr.alloc oo) := fun _ => (Below.refl _ _).alloc (Nat.le_refl _) _
          have HGM := hid hgM
          clear hl1 htk hat hf hgM
          go_wp2_with fail
          refine (HIH.out _ (List.getElem_mem hlk) M B _ v' _ g1 d _ (HL4.out.below (hkb _)) (HX.out.below (hkb _)) hM0 (hat'.below (hkb _)) HGM.out hshj (Nat.le_trans hBr (hkb _).size) hszj hl2).mono ?_
          rintro e w4 ⟨⟨r4, rfl⟩, v5, hL5, hr5⟩
          have HL5 := hid hL5
          have HR5 := hid ((HR4.out.trans (Lr.of_below (hkb _) v')).trans hr5)
          clear hL5 hr5 e0 e1 e2 e3 e4 e5 e6 e7 e8 hat'
          go_wp2_with fail
          go_roundw
          case rel => exact ⟨j + 1, v5, by omega, by go_num, by rw [HTK.out, ← List.append_assoc]; exact HL5.out, HR5.out⟩
          case measure => simp [intOf]; omega
        · have hz : ts.take j = ts := List.take_of_length_le (by omega)
          have HZ := hid hz
          clear hz
          go_wp2_with fail
          first | go_ret | go_end0
          refine ⟨⟨_, rfl⟩, v', ?_, (Lr.of_below hb0 v).trans HR4.out⟩
          have := HL4.out
          rw [HZ.out] at this
          rw [HTYS.out]
          exact this
    · have hsb : showsB form 116 = false := by rw [HSHOW.out]; simpa using hj
      have HTYS := hid (show ds ++ tysOf (.mk (jk : Int) nm num ty fr lb ts) = ds ++ tysL ts by
        have : ¬ ((jk : Int) = 5 ∨ (jk : Int) = 13) := by omega
        simp only [tysOf, if_neg this, List.nil_append])
      have HLEN := hid (show ds.length + (tysL ts).length ≤ 4194303 by
        have : ¬ ((jk : Int) = 5 ∨ (jk : Int) = 13) := by omega
        simp only [tysOf, if_neg this, List.nil_append] at hlen
        omega)
      have HL2 := hid (HL.out.below hb0)
      have HR2 := hid (Lr.of_below (M := M) (Below.refl ((w.alloc (Obj.cells #[.int .i64 (jk : Int), .string nm, .int .i64 num, .int .i64 k1, .slice a1 n1 c1, .int .i64 k2, .slice a2 n2 c2, .int .i64 lb, .slice a3 ts.length c3] 35))).heap.size (w.alloc (Obj.cells #[.int .i64 (jk : Int), .string nm, .int .i64 num, .int .i64 k1, .slice a1 n1 c1, .int .i64 k2, .slice a2 n2 c2, .int .i64 lb, .slice a3 ts.length c3] 35))) v)
      clear hlen hj
      go_enter Tryd.func89, Tryd.ntmps89
      go_wp2_with fail
      refine (shows_any form 116 _).mono ?_
      rw [hsb]
      rintro e w1 ⟨rfl, rfl⟩
      go_wp2_with fail
      go_loopw [18] (fun i wr => ∃ (j : Nat) (v' : Value), j ≤ ts.length ∧ i = .int .i64 j ∧ ListAt M B (ds ++ tysL (ts.take j)) v' wr ∧ Lr M (w.alloc (Obj.cells #[.int .i64 (jk : Int), .string nm, .int .i64 num, .int .i64 k1, .slice a1 n1 c1, .int .i64 k2, .slice a2 n2 c2, .int .i64 lb, .slice a3 ts.length c3] 35)) wr v v') (fun i _ => ts.length - (intOf i).toNat)
      case atStart => exact ⟨0, _, Nat.zero_le _, rfl, by simpa [tysL] using HL2.out, HR2.out⟩
      case round =>
        obtain ⟨j, v', hj, rfl, hL4, hr4⟩ := hrel
        have hbl := hr4.below HMB.out (Nat.le_trans hBw hb0.size) (fun b hb => (HOWN.out b hb).1)
        have hBr : B ≤ wr.heap.size := Nat.le_trans (Nat.le_trans hBw hb0.size) hr4.1.2.2.2
        have HL4 := hid hL4
        have HR4 := hid hr4
        have HBL := hid hbl
        clear hL4 hr4 hbl
        by_cases hlk : j < ts.length
        · obtain ⟨b, o, q0, q1, q2, q3, q4, q5, q6, q7, q8, q9, q10, q11, q12, q13, q14, g1, hab, hblt, e0, e1, e2, e3, e4, e5, e6, e7, e8, hat, hf⟩ := HG.out j hlk
          have hbM : b < M := HS3.out b (HBK.out b o hab (by omega))
          subst hab
          have hgM : ∀ x ∈ g1, x < M := fun x hx => HS3.out x (hf x hx)
          have hat' : Tm.At wr ts[j] _ g1 := (hat.below hb0).congr fun x hx o' => HBL.out.cell (p := ⟨x, o', none⟩) (hgM x hx)
          replace e0 := (HBL.out.cell (p := ⟨b, o + j * 9, none⟩) hbM).trans (cell_keep e0 hb0)
          replace e1 := (HBL.out.cell (p := ⟨b, o + j * 9 + 1, none⟩) hbM).trans (cell_keep e1 hb0)
          replace e2 := (HBL.out.cell (p := ⟨b, o + j * 9 + 2, none⟩) hbM).trans (cell_keep e2 hb0)
          replace e3 := (HBL.out.cell (p := ⟨b, o + j * 9 + 3, none⟩) hbM).trans (cell_keep e3 hb0)
          replace e4 := (HBL.out.cell (p := ⟨b, o + j * 9 + 4, none⟩) hbM).trans (cell_keep e4 hb0)
          replace e5 := (HBL.out.cell (p := ⟨b, o + j * 9 + 5, none⟩) hbM).trans (cell_keep e5 hb0)
          replace e6 := (HBL.out.cell (p := ⟨b, o + j * 9 + 6, none⟩) hbM).trans (cell_keep e6 hb0)
          replace e7 := (HBL.out.cell (p := ⟨b, o + j * 9 + 7, none⟩) hbM).trans (cell_keep e7 hb0)
          replace e8 := (HBL.out.cell (p := ⟨b, o + j * 9 + 8, none⟩) hbM).trans (cell_keep e8 hb0)
          have htk := tysL_take hlk
          have hl1 := tysL_take_len ts (j + 1)
          have hl2 : (ds ++ tysL (ts.take j)).length + (tysOf ts[j]).length ≤ 4194303 := by
            rw [htk] at hl1
            have := HLEN.out
            simp only [List.length_append, List.length_cons, List.length_nil] at hl1 this ⊢
            omega
          have hszj : ts[j].sz ≤ 1048576 := by have := HSZ.out; have := sz_mem (List.getElem_mem hlk); omega
          have hshj : shpM d ts[j] = true := by have := List.all_eq_true.1 HKD.out _ (List.getElem_mem hlk); exact this
          have HTK := hid htk
          have HX := hid (show Forms wr from forms_below (hF.below hb0) HBL.out hM0)
          have hkb : ∀ oo : Obj, Below wr.heap.size wr (wr.alloc oo) := fun _ => (Below.refl _ _).alloc (Nat.le_refl _) _
          have HGM := hid hgM
          clear hl1 htk hat hf hgM
          go_wp2_with fail
          refine (HIH.out _ (List.getElem_mem hlk) M B _ v' _ g1 d _ (HL4.out.below (hkb _)) (HX.out.below (hkb _)) hM0 (hat'.below (hkb _)) HGM.out hshj (Nat.le_trans hBr (hkb _).size) hszj hl2).mono ?_
          rintro e w4 ⟨⟨r4, rfl⟩, v5, hL5, hr5⟩
          have HL5 := hid hL5
          have HR5 := hid ((HR4.out.trans (Lr.of_below (hkb _) v')).trans hr5)
          clear hL5 hr5 e0 e1 e2 e3 e4 e5 e6 e7 e8 hat'
          go_wp2_with fail
          go_roundw
          case rel => exact ⟨j + 1, v5, by omega, by go_num, by rw [HTK.out, ← List.append_assoc]; exact HL5.out, HR5.out⟩
          case measure => simp [intOf]; omega
        · have hz : ts.take j = ts := List.take_of_length_le (by omega)
          have HZ := hid hz
          clear hz
          go_wp2_with fail
          first | go_ret | go_end0
          refine ⟨⟨_, rfl⟩, v', ?_, (Lr.of_below hb0 v).trans HR4.out⟩
          have := HL4.out
          rw [HZ.out] at this
          rw [HTYS.out]
          exact this

theorem eachType_any : ∀ t : Tm, EtC t := Tm.ind eachType_of

set_option maxRecDepth 100000 in
set_option maxHeartbeats 2000000 in
theorem implTermTypes (t : Tm) (v : Value) (fp : List Nat) (w : World) (hsz : t.sz ≤ 1048576) (hF : Forms w) (hat : t.At w v fp) :
    Calls Tryd.prog 36 #[v] w (MadeS w (tyLst t)) := by
  have hlt := hat.lt
  have HLT := hid hlt
  clear hlt
  have hat0 := hat
  obtain ⟨k, nm, num, k1, n1, a1, c1, k2, n2, a2, c2, lb, n3, a3, c3, rfl⟩ := hat.agg
  have hb0 : Below w.heap.size w (w.alloc (Obj.cells #[.int .i64 k, .string nm, .int .i64 num, .int .i64 k1, .slice a1 n1 c1, .int .i64 k2, .slice a2 n2 c2, .int .i64 lb, .slice a3 n3 c3] 35)) := (Below.refl _ _).alloc (Nat.le_refl _) _
  have HV := hid (implTermValid t _ _ _ (hF.below hb0) (hat0.below hb0))
  have HT := hid (show tyLst t = if vldM t then tysOf t else [] from rfl)
  have HLN := hid (tysOf_len t)
  have HSH := hid (show vldM t = true → shpM 12 t = true from fun h => by unfold vldM at h; simp only [Bool.and_eq_true] at h; exact h.1)
  have hM0 : 0 < w.heap.size := World.block_lt_of_cell? _ _ (hF 0 (by omega))
  generalize tyLst t = L at *
  generalize vldM t = r at *
  go_enter Tryd.func36, Tryd.ntmps36
  go_wp2_with fail
  refine HV.out.mono ?_
  rintro e w1 ⟨rfl, hb1⟩
  obtain ⟨z0, z1, z2, z3, z4, z5, z6, z7, z8⟩ := box9 hb1
  have b1 := below_trans hb0 hb1
  have hat2 := hat.below b1
  have hal : Below w1.heap.size w1 (w1.alloc (Obj.cells #[.slice none 0 0] 30)) := (Below.refl _ _).alloc (Nat.le_refl _) _
  cases r
  · go_wp2_with fail
    go_ret
    exact ⟨_, [], rfl, .inl ⟨by rw [HT.out]; rfl, rfl, _, _, rfl⟩, Fresh.nil _ _, b1⟩
  · have HSHP := hid (HSH.out rfl)
    replace z0 := cell_keep z0 hal
    replace z1 := cell_keep z1 hal
    replace z2 := cell_keep z2 hal
    replace z3 := cell_keep z3 hal
    replace z4 := cell_keep z4 hal
    replace z5 := cell_keep z5 hal
    replace z6 := cell_keep z6 hal
    replace z7 := cell_keep z7 hal
    replace z8 := cell_keep z8 hal
    have hs1 : (w1.alloc (Obj.cells #[.slice none 0 0] 30)).heap.size = w1.heap.size + 1 := by simp
    have HL := hid (show ListAt w1.heap.size (w1.heap.size + 1) [] (.slice none 0 0) (w1.alloc (Obj.cells #[.slice none 0 0] 30)) from ⟨[], alloc_new _ _, GrowT.zero _ _, Nat.lt_succ_self _⟩)
    have HFM := hid ((hF.below b1).below hal)
    have HM0 := hid (show 0 < w1.heap.size from Nat.lt_of_lt_of_le hM0 b1.size)
    have HAT := hid (hat2.below hal)
    have HLT1 := hid (show ∀ x ∈ fp, x < w1.heap.size from fun x hx => Nat.lt_of_lt_of_le (HLT.out x hx) b1.size)
    have hsz2 : ([] : List Ty).length + (tysOf t).length ≤ 4194303 := by have := HLN.out; simp only [List.length_nil]; omega
    clear hat2 hM0
    go_wp2_with fail
    refine (eachType_any t w1.heap.size (w1.heap.size + 1) [] (.slice none 0 0) _ fp 12 _ HL.out HFM.out HM0.out HAT.out HLT1.out HSHP.out (Nat.le_of_eq hs1.symm) hsz hsz2).mono ?_
    rintro e w3 ⟨⟨r3, rfl⟩, v', ⟨g', hO, hG, hMB⟩, hr⟩
    obtain ⟨a', capv', hshape⟩ := hG.shape
    obtain ⟨fp', hs', hf'⟩ := hG.done (by unfold maxLen; have := HLN.out; simp only [List.nil_append]; omega)
    have hc : w3.cell? ⟨w1.heap.size, 0, none⟩ = some v' := by rw [cell_of_block hO]; rfl
    have hbl : Below w1.heap.size (w1.alloc (Obj.cells #[.slice none 0 0] 30)) w3 := hr.below hMB (Nat.le_of_eq hs1.symm) (fun b hb => by cases hb)
    have HFIN := hid (show MadeS w L (.returned v') w3 from ⟨v', fp', rfl, by rw [HT.out, if_pos trivial]; simpa using hs', hf'.mono (by have := b1.size; omega), b1.trans ((hal.trans (hbl.mono (Nat.le_refl _))).mono b1.size)⟩)
    clear hs' hf' hG hr hbl hO hMB hshape
    go_wp2_with fail
    go_ret
    exact HFIN.out

end Go.Proofs.YtffmpjcjmffdeaaDoor

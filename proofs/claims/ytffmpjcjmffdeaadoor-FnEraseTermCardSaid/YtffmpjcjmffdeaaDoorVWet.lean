/- The program's withEachType: over any choice of types that has a contract. -/
import Derived.Test.YtffmpjcjmffdeaaDoorVRwC
import Derived.Test.YtffmpjcjmffdeaaDoorVTysM
namespace Go.Proofs.YtffmpjcjmffdeaaDoor
open Go.RowKit

def hasTy (k : Int) : Bool := decide (k = 5 ∨ k = 13)

def wtNx (n : Nat) : Tm → Nat
  | .mk k _ _ _ _ _ _ => if hasTy k then n + 1 else n
def wtCh (T : Nat → Ty) (n : Nat) : Tm → Tm ⊕ (Ty × Ty)
  | .mk k _ _ ty fr _ _ => .inr (if hasTy k then T n else ty, fr)

def WtPre (N n : Nat) (t : Tm) : Prop := (∃ d, shpM d t = true) ∧ n + (tysOf t).length ≤ N

/-- What a choice says. -/
def ChoOut (U : Nat) (St : Nat → World → Prop) (w : World) (n' : Nat) (t : Ty) (e : Ending) (w' : World) : Prop :=
  ∃ k m a c f, e = .returned (.agg #[.int .i64 k, .slice a m c]) ∧ t.At w' (.agg #[.int .i64 k, .slice a m c]) f ∧ Fresh w.heap.size w' f ∧ Bx U w w' ∧ St n' w'

theorem node_of {d : Nat} {k : Int} {nm : ByteArray} {num : Int} {ty fr : Ty} {lb : Int} {ts : List Tm} (h : shpM d (.mk k nm num ty fr lb ts) = true) : 1 ≤ k ∧ k ≤ 13 ∧ okTy ty ∧ okTy fr ∧ (hasTy k = true → vld ty = true) ∧ ∀ t ∈ ts, ∃ d, shpM d t = true := by
  cases d with
  | zero => simp [shpM] at h
  | succ d =>
    simp only [shpM, Bool.and_eq_true, List.all_eq_true, bne_iff_ne, ne_eq, beq_iff_eq] at h
    obtain ⟨⟨⟨hk, h14⟩, ho⟩, hkids⟩ := h
    have hk1 : 1 ≤ k ∧ k ≤ 13 := by
      unfold kidsM at hk
      split at hk
      · omega
      · split at hk
        · omega
        · split at hk
          · omega
          · split at hk
            · omega
            · omega
    simp only [ownM, Bool.and_eq_true] at ho
    have h3 := ho.1.2
    have h2 := ho.1.1.2
    have hfr : noTy fr = true := by
      have : (k == 14) = false := by simpa using h14
      rw [this, Bool.false_or, Bool.and_eq_true] at h3
      exact h3.1
    refine ⟨hk1.1, hk1.2, ?_, .inr hfr, ?_, fun t ht => ⟨d, hkids t ht⟩⟩
    · split at h2
      · exact .inl (wf_of_vld h2)
      · exact .inr h2
    · intro hT
      rw [if_pos (by simp only [hasTy, decide_eq_true_eq] at hT; omega)] at h2
      exact h2

set_option maxRecDepth 100000 in
set_option maxHeartbeats 4000000 in
theorem wet_any (g : FuncId) (caps : Array Value) (U S0 C N : Nat) (St : Nat → World → Prop) (T : Nat → Ty) (hg : CallOkT g) (hU : U < S0) (hCS : C < S0) (hSt : ∀ n w w', St n w → Below S0 w w' → St n w')
    (hC : ∀ n w, St n w → w.cell? ⟨C, 0, none⟩ = some (.func (.func g) #[] caps)) (hFm : ∀ n w, St n w → Forms w)
    (hCho : ∀ n k a m c w, St n w → n < N → S0 ≤ w.heap.size → Calls Tryd.prog g (#[.agg #[.int .i64 k, .slice a m c]] ++ caps) w (ChoOut U St w (n + 1) (T n))) :
    ChC 133 #[.pointer (some ⟨C, 0, none⟩)] U S0 St (WtPre N) wtNx (wtCh T) := by
  intro n k nm num ty fr lb ts k1 n1 a1 c1 k2 n2 a2 c2 a3 c3 fp w hat hpre hst hS0 hfp
  obtain ⟨⟨d, hsh⟩, hN⟩ := hpre
  obtain ⟨hk1, hk2, hty, hfr, -, -⟩ := node_of hsh
  obtain ⟨jk, rfl⟩ : ∃ j : Nat, k = (j : Int) := ⟨k.toNat, by omega⟩
  have hj1 : 1 ≤ jk := by omega
  have hj2 : jk < 14 := by omega
  have hshow := (frm_shows13 jk hj1 hj2).2.2
  have hHT : hasTy (jk : Int) = decide (jk = 5 ∨ jk = 13) := by unfold hasTy; congr 1; apply propext; omega
  have hNN : hasTy (jk : Int) = true → n < N := fun h => by
    simp only [tysOf, hasTy, decide_eq_true_eq] at hN h
    rw [if_pos h] at hN
    simp only [List.length_append, List.length_cons] at hN
    omega
  obtain ⟨k1', n1', a1', c1', k2', n2', a2', c2', a3', c3', f1, f2, f3, hv, hnm, ht1, ht2, -, -⟩ := hat.parts
  simp only [Value.agg.injEq, Array.mk.injEq, List.cons.injEq, and_true, Value.int.injEq, Value.slice.injEq, true_and] at hv
  obtain ⟨rfl, ⟨rfl, rfl, rfl⟩, rfl, ⟨rfl, rfl, rfl⟩, rfl, rfl⟩ := hv
  have hb0 : Below w.heap.size w ((w.alloc (Obj.cells #[.int .i64 (jk : Int), .string nm, .int .i64 num, .int .i64 k1, .slice a1 n1 c1, .int .i64 k2, .slice a2 n2 c2, .int .i64 lb, .slice a3 ts.length c3] 35)).alloc (Obj.cells #[.int .i64 0, .string ByteArray.empty, .int .i64 0, .int .i64 0, .slice none 0 0, .int .i64 0, .slice none 0 0, .int .i64 0, .slice none 0 0] 35)) := ((Below.refl _ _).alloc (Nat.le_refl _) _).alloc (by simp) _
  have hform := hFm _ _ hst jk (by omega)
  have HCP := hid (copyNode_any jk nm num ty fr lb a3 ts.length c3 k1 k2 n1 n2 c1 c2 a1 a2 f1 f2 _ (ht1.below hb0) (ht2.below hb0) hty hfr)
  have HCELL := hid (hC _ _ hst)
  have HST := hid hst
  have HSTB := hid hSt
  have HCHO := hid (fun k a m c w h1 h2 => hCho n k a m c w h1 h2)
  have HB0 := hid hb0
  have HTN := hid hHT
  have HNN := hid hNN
  have hs0 : (((w.alloc (Obj.cells #[.int .i64 (jk : Int), .string nm, .int .i64 num, .int .i64 k1, .slice a1 n1 c1, .int .i64 k2, .slice a2 n2 c2, .int .i64 lb, .slice a3 ts.length c3] 35)).alloc (Obj.cells #[.int .i64 0, .string ByteArray.empty, .int .i64 0, .int .i64 0, .slice none 0 0, .int .i64 0, .slice none 0 0, .int .i64 0, .slice none 0 0] 35))).heap.size = w.heap.size + 1 + 1 := by simp
  have HZ0 := hid hs0
  have HS0 := hid hS0
  have HG := hid hg
  have HU := hid (show U < w.heap.size ∧ C < w.heap.size by omega)
  generalize hfrm : frm jk = form at *
  clear hat hfp hst hSt hC hFm hCho hsh hN hk1 hk2 hty hfr hHT hNN ht1 ht2 hb0 hs0 hS0 hg hfrm
  have fm0 := cell_keep hform HB0.out
  have hG0 : 0 < w.heap.size := World.block_lt_of_cell? _ _ hform
  suffices hgoal : ∀ P : Ending → World → Prop, (∀ e w', ChOut U St w (wtNx n (.mk (jk : Int) nm num ty fr lb ts)) (jk : Int) nm num lb (.slice a3 ts.length c3) e w' (wtCh T n (.mk (jk : Int) nm num ty fr lb ts)) → P e w') → Calls Tryd.prog 133 #[(.agg #[.int .i64 (jk : Int), .string nm, .int .i64 num, .int .i64 k1, .slice a1 n1 c1, .int .i64 k2, .slice a2 n2 c2, .int .i64 lb, .slice a3 ts.length c3]), .pointer (some ⟨C, 0, none⟩)] w P from hgoal _ (fun _ _ h => h)
  intro P hP
  have HP := hid hP
  clear hP
  go_enter Tryd.func133, Tryd.ntmps133
  go_wp2_with fail
  refine HCP.out.mono ?_
  rintro e w1 ⟨j1, m1, p1, d1, j2, m2, p2, d2, g1, g2, rfl, hv1, hv2, hgf, hb1⟩
  obtain ⟨hB, hZ⟩ := two_out hb1
  obtain ⟨x0, x1, x2, x3, x4, x5, x6, x7, x8⟩ := cells9 hB
  have xz := fun o => frozen_of_block (o := o) hB
  have hM : w.heap.size + 1 < w1.heap.size := lt_of_block hZ
  have fm := cell_keep fm0 hb1
  have HBL := hid (show Below w.heap.size w w1 from below_trans HB0.out hb1)
  have HBB := hid hB
  have HZZ := hid hZ
  rw [HZ0.out] at hgf
  have HV := hid (And.intro hv1 (And.intro hv2 hgf))
  clear hb1 hB hZ hv1 hv2 hgf HCP fm0 hform HB0 HZ0
  go_wp2_with fail
  refine (shows_any form 116 _).mono ?_
  rintro e w2 ⟨rfl, hw2⟩
  have e2 : w2 = put w1 w.heap.size 0 [.int .i64 (jk : Int), .string nm, .int .i64 num, .int .i64 j1, .slice p1 m1 d1, .int .i64 j2, .slice p2 m2 d2, .int .i64 lb, .slice a3 ts.length c3] := by rw [hw2]; simp only [put, Nat.zero_add, Nat.reduceAdd]
  have hB2 : w2.heap[w.heap.size]? = some (.cells (Array.mk [.int .i64 (jk : Int), .string nm, .int .i64 num, .int .i64 j1, .slice p1 m1 d1, .int .i64 j2, .slice p2 m2 d2, .int .i64 lb, .slice a3 ts.length c3]) 35 (0, 0)) := by
    rw [e2, heap_put HBB.out]
    simp only [putA, List.setIfInBounds_toArray, List.set]
  have hZ2 : w2.heap[w.heap.size + 1]? = some (Obj.cells #[.int .i64 0, .string ByteArray.empty, .int .i64 0, .int .i64 0, .slice none 0 0, .int .i64 0, .slice none 0 0, .int .i64 0, .slice none 0 0] 35) := by rw [e2, heap_put_ne (by omega)]; exact HZZ.out
  have b2 : Below w.heap.size w w2 := by rw [e2]; exact below_put HBL.out (Nat.le_refl _)
  have ab2 : Above (w.heap.size + 1 + 1) w1 w2 := by rw [e2]; exact (Above.refl _ _).put (by omega)
  have q1 := HV.out.1.above ab2 (fun b hb => HV.out.2.2.ge b (by simp [hb]))
  have q2 := HV.out.2.1.above ab2 (fun b hb => HV.out.2.2.ge b (by simp [hb]))
  have F2 := HV.out.2.2.above ab2 (Nat.le_refl _)
  clear e2 hw2 ab2 HV HBB HZZ HBL x0 x1 x2 x3 x4 x5 x6 x7 x8 xz hM fm
  obtain ⟨x0, x1, x2, x3, x4, x5, x6, x7, x8⟩ := cells9 hB2
  obtain ⟨y0, y1, y2, y3, y4, y5, y6, y7, y8⟩ := cells9 hZ2
  have xz := fun o => frozen_of_block (o := o) hB2
  have yz := fun o => frozen_of_block (o := o) hZ2
  have hM : w.heap.size + 1 < w2.heap.size := lt_of_block hZ2
  by_cases hj : jk = 5 ∨ jk = 13
  · have hsb : showsB form 116 = true := by rw [hshow]; simpa using hj
    have hht : hasTy (jk : Int) = true := by rw [HTN.out]; simpa using hj
    have HN := hid (HNN.out hht)
    have HH := hid hht
    rw [hsb]
    have hst2 := HSTB.out _ _ _ HST.out (b2.mono HS0.out)
    have cc := cell_keep HCELL.out b2
    have hg := HG.out
    unfold CallOkT at hg
    have hSw : S0 ≤ w2.heap.size := by have := HS0.out; have := b2.size; omega
    clear hsb hht hshow
    go_wp2_with fail
    refine (HCHO.out j1 p1 m1 d1 w2 hst2 HN.out hSw).mono ?_
    rintro e w3 ⟨kq, mq, aq, cq, fq, rfl, hvq, hfq, hbx3, hst3⟩
    have hUl := HU.out
    have hB3 := hbx3.block' hB2 (by omega)
    have hZ3 := hbx3.block' hZ2 (by omega)
    have r2 := hbx3.ty q2 (fun b hb => by have := F2.ge b (by simp [hb]); omega)
    have G2 : Fresh (w.heap.size + 1 + 1) w2 g2 := ⟨(List.nodup_append.1 F2.1).2.1, fun b hb => F2.2 b (by simp [hb])⟩
    have G3 := hbx3.fresh G2 (by omega)
    have FQ : Fresh (w.heap.size + 1 + 1) w3 (fq ++ g2) := by
      refine ⟨List.nodup_append.2 ⟨hfq.1, G3.1, fun a ha b hb e => ?_⟩, fun b hb => ?_⟩
      · have := hfq.ge a ha
        have := (G2.2 b hb).2.1
        omega
      · rcases List.mem_append.1 hb with hb | hb
        · exact ⟨by have := hfq.ge b hb; omega, (hfq.2 b hb).2⟩
        · exact G3.2 b hb
    have ab3 : Above (w.heap.size + 1 + 1) w3 (put ((w3.setCell ⟨w.heap.size, 3, none⟩ (.int .i64 kq)).setCell ⟨w.heap.size, 4, none⟩ (.slice aq mq cq)) (w.heap.size + 1) 0 [.int .i64 (jk : Int), .string nm, .int .i64 num, .int .i64 kq, .slice aq mq cq, .int .i64 j2, .slice p2 m2 d2, .int .i64 lb, .slice a3 ts.length c3]) := (((Above.refl _ _).setCell (by simp; omega) _).setCell (by simp; omega) _).put (by omega)
    have bb3 : Below w.heap.size w3 (put ((w3.setCell ⟨w.heap.size, 3, none⟩ (.int .i64 kq)).setCell ⟨w.heap.size, 4, none⟩ (.slice aq mq cq)) (w.heap.size + 1) 0 [.int .i64 (jk : Int), .string nm, .int .i64 num, .int .i64 kq, .slice aq mq cq, .int .i64 j2, .slice p2 m2 d2, .int .i64 lb, .slice a3 ts.length c3]) := below_put (((Below.refl _ _).setCell (by simp) _).setCell (by simp) _) (by omega)
    have FIN := hid (show ChOut U St w (wtNx n (.mk (jk : Int) nm num ty fr lb ts)) (jk : Int) nm num lb (.slice a3 ts.length c3) (.returned (.tuple #[.agg (Array.mk [.int .i64 (jk : Int), .string nm, .int .i64 num, .int .i64 kq, .slice aq mq cq, .int .i64 j2, .slice p2 m2 d2, .int .i64 lb, .slice a3 ts.length c3]), .bool true])) (put ((w3.setCell ⟨w.heap.size, 3, none⟩ (.int .i64 kq)).setCell ⟨w.heap.size, 4, none⟩ (.slice aq mq cq)) (w.heap.size + 1) 0 [.int .i64 (jk : Int), .string nm, .int .i64 num, .int .i64 kq, .slice aq mq cq, .int .i64 j2, .slice p2 m2 d2, .int .i64 lb, .slice a3 ts.length c3]) (wtCh T n (.mk (jk : Int) nm num ty fr lb ts)) from by
      simp only [wtNx, wtCh, HH.out, ↓reduceIte, ChOut]
      exact ⟨_, _, _, _, _, _, _, _, fq, g2, rfl, hvq.above ab3 (fun b hb => FQ.ge b (by simp [hb])), r2.above ab3 (fun b hb => FQ.ge b (by simp [hb])), (FQ.above ab3 (Nat.le_refl _)).mono (by omega), ((Bx.of_below b2).trans hbx3).trans_below bb3 (Nat.le_refl _), HSTB.out _ _ _ hst3 (bb3.mono HS0.out)⟩)
    clear x0 x1 x2 x3 x4 x5 x6 x7 x8 y0 y1 y2 y3 y4 y5 y6 y7 y8 xz yz hM q1 q2 F2 hB2 hZ2 b2 hst2 cc hg hvq hfq hbx3 hst3 r2 G2 G3 FQ ab3 bb3
    obtain ⟨x0, x1, x2, x3, x4, x5, x6, x7, x8⟩ := cells9 hB3
    obtain ⟨y0, y1, y2, y3, y4, y5, y6, y7, y8⟩ := cells9 hZ3
    have xz := fun o => frozen_of_block (o := o) hB3
    have yz := fun o => frozen_of_block (o := o) hZ3
    have hM : w.heap.size + 1 < w3.heap.size := lt_of_block hZ3
    clear hB3 hZ3
    go_wp2_with fail
    exact bodyPost_ret (v := .tuple #[.agg (Array.mk [.int .i64 (jk : Int), .string nm, .int .i64 num, .int .i64 kq, .slice aq mq cq, .int .i64 j2, .slice p2 m2 d2, .int .i64 lb, .slice a3 ts.length c3]), .bool true]) (by simp [results, Tryd.results133, go_sem, y0, y1, y2, y3, y4, y5, y6, y7, y8]) rfl (HP.out _ _ FIN.out)
  · have hsb : showsB form 116 = false := by rw [hshow]; simpa using hj
    have hht : hasTy (jk : Int) = false := by rw [HTN.out]; simpa using hj
    have HH := hid hht
    rw [hsb]
    have ab3 : Above (w.heap.size + 1 + 1) w2 (put w2 (w.heap.size + 1) 0 [.int .i64 (jk : Int), .string nm, .int .i64 num, .int .i64 j1, .slice p1 m1 d1, .int .i64 j2, .slice p2 m2 d2, .int .i64 lb, .slice a3 ts.length c3]) := (Above.refl _ _).put (by omega)
    have bb3 : Below w.heap.size w2 (put w2 (w.heap.size + 1) 0 [.int .i64 (jk : Int), .string nm, .int .i64 num, .int .i64 j1, .slice p1 m1 d1, .int .i64 j2, .slice p2 m2 d2, .int .i64 lb, .slice a3 ts.length c3]) := below_put (Below.refl _ _) (by omega)
    have FIN := hid (show ChOut U St w (wtNx n (.mk (jk : Int) nm num ty fr lb ts)) (jk : Int) nm num lb (.slice a3 ts.length c3) (.returned (.tuple #[.agg (Array.mk [.int .i64 (jk : Int), .string nm, .int .i64 num, .int .i64 j1, .slice p1 m1 d1, .int .i64 j2, .slice p2 m2 d2, .int .i64 lb, .slice a3 ts.length c3]), .bool true])) (put w2 (w.heap.size + 1) 0 [.int .i64 (jk : Int), .string nm, .int .i64 num, .int .i64 j1, .slice p1 m1 d1, .int .i64 j2, .slice p2 m2 d2, .int .i64 lb, .slice a3 ts.length c3]) (wtCh T n (.mk (jk : Int) nm num ty fr lb ts)) from by
      simp only [wtNx, wtCh, HH.out, Bool.false_eq_true, ↓reduceIte, ChOut]
      exact ⟨_, _, _, _, _, _, _, _, g1, g2, rfl, q1.above ab3 (fun b hb => F2.ge b (by simp [hb])), q2.above ab3 (fun b hb => F2.ge b (by simp [hb])), (F2.above ab3 (Nat.le_refl _)).mono (by omega), Bx.of_below (b2.trans bb3), HSTB.out _ _ _ HST.out ((b2.trans bb3).mono HS0.out)⟩)
    clear hsb hht hshow q1 q2 F2 ab3 bb3 b2 hB2 hZ2
    go_wp2_with fail
    exact bodyPost_ret (v := .tuple #[.agg (Array.mk [.int .i64 (jk : Int), .string nm, .int .i64 num, .int .i64 j1, .slice p1 m1 d1, .int .i64 j2, .slice p2 m2 d2, .int .i64 lb, .slice a3 ts.length c3]), .bool true]) (by simp [results, Tryd.results133, go_sem, y0, y1, y2, y3, y4, y5, y6, y7, y8]) rfl (HP.out _ _ FIN.out)
end Go.Proofs.YtffmpjcjmffdeaaDoor

/- The program's matchKind, MatchFun and MatchPair. -/
import Derived.Test.YtffmpjcjmffdeaaDoorRG11
namespace Go.Proofs.YtffmpjcjmffdeaaDoor
open Go.RowKit

set_option maxHeartbeats 2000000 in
set_option maxRecDepth 100000 in
theorem matchKind_any (q : Int) (hq : q = 4 ∨ q = 5) (t : Ty) (v : Value) (fp : List Nat) (w : World) (hat : t.At w v fp) (hv : vld t = true) : Calls Tryd.prog 179 #[v, .int .i64 q] w (MadeTT w (mtOf q 0 t) (mtOf q 1 t) (mtOk q t)) := by
  obtain ⟨k, ts, rfl⟩ := t.shape
  obtain ⟨s, rfl, hs⟩ := Ty.at_mk.1 hat
  have hB0 := (((Below.refl w.heap.size w).alloc (Nat.le_refl _) (Obj.cells #[.int .i64 k, s] 32)).alloc (by simp) (Obj.cells #[.int .i64 0, .slice none 0 0] 32)).alloc (by simp; omega) (Obj.cells #[.int .i64 0, .slice none 0 0] 32)
  by_cases h1 : k = 1
  · subst h1
    obtain ⟨a, cap, rfl⟩ := hs.shape
    have HT := hid (mt_any (q := q) hv)
    rw [HT.out.1, HT.out.2, HT.out.2]
    have HAT0 := hid hat
    have HV := hid hv
    clear hv hat hs
    go_enter Tryd.func179, Tryd.ntmps179
    go_wp2_with fail
    refine (implTypeValid_any (.mk 1 ts) _ _ _ (HAT0.out.below hB0)).mono ?_
    rintro e w2 ⟨he, hb⟩
    rw [HV.out] at he
    subst he
    obtain ⟨x0, x1, p0, p1, r0, r1, pz, rz⟩ := three_cells hb
    have hM : w.heap.size + 1 + 1 < w2.heap.size := by have := hb.size; simp at this; omega
    have hbb := (((((alloc3 hb).setCell (p := ⟨w.heap.size + 1, 0, none⟩) (by simp) (.int .i64 1)).setCell (p := ⟨w.heap.size + 1, 1, none⟩) (by simp) (.slice none 0 0)).setCell (p := ⟨w.heap.size + 1 + 1, 0, none⟩) (by simp; omega) (.int .i64 1)).setCell (p := ⟨w.heap.size + 1 + 1, 1, none⟩) (by simp; omega) (.slice none 0 0))
    go_wp2_with fail
    exact bodyPost_ret (v := .tuple #[.agg #[.int .i64 1, .slice none 0 0], .agg #[.int .i64 1, .slice none 0 0], .bool true]) (by simp [results, Tryd.results179, go_sem, p0, p1, r0, r1]) rfl (MadeTT.leaf hbb)
  by_cases h2 : k = q
  · subst h2
    obtain ⟨a, b, rfl⟩ := two_of hq hv
    obtain ⟨p, cap, rfl, hc, hm, hget⟩ := hs.openA
    have HT := hid (mt_two hq hv)
    rw [HT.out.1, HT.out.2.1, HT.out.2.2]
    obtain ⟨B, o, k1, n1, a1, cap1, g1, hp, hblt, c0, c1, hat1, -⟩ := hget 0 (by simp)
    obtain ⟨B', o', k2, n2, a2, cap2, g2, hp', -, c2, c3, hat2, -⟩ := hget 1 (by simp)
    rw [hp] at hp'
    simp only [Option.some.injEq, Addr.mk.injEq, and_true] at hp'
    obtain ⟨rfl, rfl⟩ := hp'
    subst hp
    simp only [Nat.zero_mul, Nat.add_zero, Nat.one_mul, List.getElem_cons_zero, List.getElem_cons_succ] at c0 c1 c2 c3 hat1 hat2
    simp only [List.length_cons, List.length_nil, Nat.zero_add, Nat.reduceAdd] at hc hm ⊢
    have hna : wf a := (wf_mk (wf_of_vld hv)).2 a (by simp)
    have hnb : wf b := (wf_mk (wf_of_vld hv)).2 b (by simp)
    have hB : Below w.heap.size w (((w.alloc (Obj.cells #[.int .i64 k, .slice (some ⟨B, o, none⟩) 2 cap] 32)).alloc (Obj.cells #[.int .i64 0, .slice none 0 0] 32)).alloc (Obj.cells #[.int .i64 0, .slice none 0 0] 32)) := hB0
    clear hB0
    replace c0 := (hB.cell (p := ⟨B, o, none⟩) hblt).trans c0
    replace c1 := (hB.cell (p := ⟨B, o + 1, none⟩) hblt).trans c1
    replace c2 := (hB.cell (p := ⟨B, o + 2, none⟩) hblt).trans c2
    replace c3 := (hB.cell (p := ⟨B, o + 2 + 1, none⟩) hblt).trans c3
    replace hat1 := hat1.below hB
    replace hat2 := hat2.below hB
    have h1' : (k == 1) = false := by simpa using h1
    have hsz : (((w.alloc (Obj.cells #[.int .i64 k, .slice (some ⟨B, o, none⟩) 2 cap] 32)).alloc (Obj.cells #[.int .i64 0, .slice none 0 0] 32)).alloc (Obj.cells #[.int .i64 0, .slice none 0 0] 32)).heap.size = w.heap.size + 1 + 1 + 1 := by simp
    obtain ⟨X0, X1, P0, P1, R0, R1, PZ, RZ⟩ := three_cells (Below.refl (((w.alloc (Obj.cells #[.int .i64 k, .slice (some ⟨B, o, none⟩) 2 cap] 32)).alloc (Obj.cells #[.int .i64 0, .slice none 0 0] 32)).alloc (Obj.cells #[.int .i64 0, .slice none 0 0] 32)).heap.size _)
    have HV := hid hv
    have HAT0 := hid (hat.below hB)
    have HK := hid h1
    clear hget hv hs hat hc hm X0 X1 P0 P1 R0 R1 PZ RZ hq h1 h1'
    have C0 := hid c0
    have C1 := hid c1
    have C2 := hid c2
    have C3 := hid c3
    have HAT1 := hid (And.intro hat1 hat2)
    have HN := hid (And.intro hna hnb)
    have HBX := hid hB
    have HSX := hid hsz
    clear c0 c1 c2 c3 hat1 hat2 hna hnb hB hsz
    go_enter Tryd.func179, Tryd.ntmps179
    go_wp2_with fail
    refine (implTypeValid_any (.mk k [a, b]) _ _ _ HAT0.out).mono ?_
    rintro e W ⟨he, hb3⟩
    rw [HV.out] at he
    subst he
    obtain ⟨X0, X1, P0, P1, R0, R1, PZ, RZ⟩ := three_cells hb3
    have c0 := cell_keep C0.out hb3
    have c1 := cell_keep C1.out hb3
    have c2 := cell_keep C2.out hb3
    have c3 := cell_keep C3.out hb3
    have HAT := hid (And.intro (HAT1.out.1.below hb3) (HAT1.out.2.below hb3))
    have HPZ := hid (And.intro PZ RZ)
    have HSZ := hid (show w.heap.size + 1 + 1 + 1 ≤ W.heap.size by rw [← HSX.out]; exact hb3.size)
    have HB := hid (HBX.out.trans (hb3.mono (by rw [HSX.out]; omega)))
    have h1' : (k == 1) = false := by simpa using HK.out
    clear PZ RZ hb3 HAT0 HAT1 C0 C1 C2 C3 HBX
    go_wp2_with fail
    clear X0 h1'
    have hWs : w.heap.size ≤ W.heap.size := by have := HSZ.out; omega
    have hS : ∀ y, Below W.heap.size W y → (fun w' : World => Below w.heap.size w w' ∧ w'.cell? ⟨w.heap.size, 1, none⟩ = some (.slice (some ⟨B, o, none⟩) 2 cap) ∧ w'.cell? ⟨B, o, none⟩ = some (.int .i64 k1) ∧ w'.cell? ⟨B, o + 1, none⟩ = some (.slice a1 n1 cap1) ∧ w'.cell? ⟨B, o + 2, none⟩ = some (.int .i64 k2) ∧ w'.cell? ⟨B, o + 2 + 1, none⟩ = some (.slice a2 n2 cap2)) y := fun y hB => ⟨HB.out.trans (hB.mono hWs), cell_keep X1 hB, cell_keep c0 hB, cell_keep c1 hB, cell_keep c2 hB, cell_keep c3 hB⟩
    have hS2 : ∀ y, (fun w' : World => Below w.heap.size w w' ∧ w'.cell? ⟨w.heap.size, 1, none⟩ = some (.slice (some ⟨B, o, none⟩) 2 cap) ∧ w'.cell? ⟨B, o, none⟩ = some (.int .i64 k1) ∧ w'.cell? ⟨B, o + 1, none⟩ = some (.slice a1 n1 cap1) ∧ w'.cell? ⟨B, o + 2, none⟩ = some (.int .i64 k2) ∧ w'.cell? ⟨B, o + 2 + 1, none⟩ = some (.slice a2 n2 cap2)) y → ∀ x z, (fun w' : World => Below w.heap.size w w' ∧ w'.cell? ⟨w.heap.size, 1, none⟩ = some (.slice (some ⟨B, o, none⟩) 2 cap) ∧ w'.cell? ⟨B, o, none⟩ = some (.int .i64 k1) ∧ w'.cell? ⟨B, o + 1, none⟩ = some (.slice a1 n1 cap1) ∧ w'.cell? ⟨B, o + 2, none⟩ = some (.int .i64 k2) ∧ w'.cell? ⟨B, o + 2 + 1, none⟩ = some (.slice a2 n2 cap2)) ((y.setCell ⟨w.heap.size + 1, 0, none⟩ x).setCell ⟨w.heap.size + 1, 1, none⟩ z) := fun y ⟨hbw, e0, d0, d1, d2, d3⟩ x z => ⟨(hbw.setCell (p := ⟨w.heap.size + 1, 0, none⟩) (by simp) _).setCell (p := ⟨w.heap.size + 1, 1, none⟩) (by simp) _, two_set_keep e0 (by omega) _ _, two_set_keep d0 (by omega) _ _, two_set_keep d1 (by omega) _ _, two_set_keep d2 (by omega) _ _, two_set_keep d3 (by omega) _ _⟩
    have hS3 : ∀ y, (fun w' : World => Below w.heap.size w w' ∧ w'.cell? ⟨w.heap.size, 1, none⟩ = some (.slice (some ⟨B, o, none⟩) 2 cap) ∧ w'.cell? ⟨B, o, none⟩ = some (.int .i64 k1) ∧ w'.cell? ⟨B, o + 1, none⟩ = some (.slice a1 n1 cap1) ∧ w'.cell? ⟨B, o + 2, none⟩ = some (.int .i64 k2) ∧ w'.cell? ⟨B, o + 2 + 1, none⟩ = some (.slice a2 n2 cap2)) y → ∀ x z, (fun w' : World => Below w.heap.size w w' ∧ w'.cell? ⟨w.heap.size, 1, none⟩ = some (.slice (some ⟨B, o, none⟩) 2 cap) ∧ w'.cell? ⟨B, o, none⟩ = some (.int .i64 k1) ∧ w'.cell? ⟨B, o + 1, none⟩ = some (.slice a1 n1 cap1) ∧ w'.cell? ⟨B, o + 2, none⟩ = some (.int .i64 k2) ∧ w'.cell? ⟨B, o + 2 + 1, none⟩ = some (.slice a2 n2 cap2)) ((y.setCell ⟨w.heap.size + 1 + 1, 0, none⟩ x).setCell ⟨w.heap.size + 1 + 1, 1, none⟩ z) := fun y ⟨hbw, e0, d0, d1, d2, d3⟩ x z => ⟨(hbw.setCell (p := ⟨w.heap.size + 1 + 1, 0, none⟩) (by simp; omega) _).setCell (p := ⟨w.heap.size + 1 + 1, 1, none⟩) (by simp; omega) _, two_set_keep e0 (by omega) _ _, two_set_keep d0 (by omega) _ _, two_set_keep d1 (by omega) _ _, two_set_keep d2 (by omega) _ _, two_set_keep d3 (by omega) _ _⟩
    have HS := hid (And.intro hS (And.intro hS2 hS3))
    have S0 := hid (hS _ (below_drew W))
    clear hS hS2 hS3
    go_region_held3 (fun w' => Below w.heap.size w w' ∧ w'.cell? ⟨w.heap.size, 1, none⟩ = some (.slice (some ⟨B, o, none⟩) 2 cap) ∧ w'.cell? ⟨B, o, none⟩ = some (.int .i64 k1) ∧ w'.cell? ⟨B, o + 1, none⟩ = some (.slice a1 n1 cap1) ∧ w'.cell? ⟨B, o + 2, none⟩ = some (.int .i64 k2) ∧ w'.cell? ⟨B, o + 2 + 1, none⟩ = some (.slice a2 n2 cap2))
      ((first | with_reducible exact S0.out | with_reducible exact S1.out | with_reducible exact S2.out | with_reducible exact S3.out _ _ | with_reducible exact S4.out _ _ _ _))
      (first
        | (go_at_call 63; refine (copyType_any b _ _ _ (HAT.out.2.below hk1) HN.out.2).mono ?_; rintro e y2 ⟨vb, fb, rfl, hb, hfb, hyb⟩; have hk2 := below_trans hk1 hyb; obtain ⟨kb, nb, ab, capb, rfl⟩ := hb.agg; have S2 := hid (HS.out.1 _ hk2); have S3 := hid (HS.out.2.1 _ S2.out); have S4 := hid (fun x z => HS.out.2.2 _ (S3.out x z)); have p0 := cell_keep P0 hk2; have p1 := cell_keep P1 hk2; have r0 := cell_keep R0 hk2; have r1 := cell_keep R1 hk2; have hMy : w.heap.size + 1 + 1 < y2.heap.size := (by have h7 := hk2.size; have h8 := HSZ.out; omega); have pz : ∀ o, y2.frozen? ⟨w.heap.size + 1, o, none⟩ = false := fun o => (hk2.frozen (p := ⟨w.heap.size + 1, o, none⟩) (by have h8 := HSZ.out; simp; omega)).trans (HPZ.out.1 o); have rz : ∀ o, y2.frozen? ⟨w.heap.size + 1 + 1, o, none⟩ = false := fun o => (hk2.frozen (p := ⟨w.heap.size + 1 + 1, o, none⟩) (by have h8 := HSZ.out; simp; omega)).trans (HPZ.out.2 o))
        | (go_at_call 63; refine (copyType_any a _ _ _ (HAT.out.1.below (below_drew W)) HN.out.1).mono ?_; rintro e y1 ⟨va, fa, rfl, ha, hfa, hya⟩; obtain ⟨ka, na, aa, capa, rfl⟩ := ha.agg; have hk1 := below_trans (below_drew W) hya; have S1 := hid (HS.out.1 _ hk1)))
    have FIN := hid (fun x z x' z' => MadeTT.stored (w := w) (ok := true) (x := x) (y := z) (x' := x') (y' := z') (A := w.heap.size + 1) (B := w.heap.size + 1 + 1) (R := W.heap.size) (M := y1.heap.size) (ha.below hyb) hb (hfa.below hyb) (hfb.mono hk1.size) hfa.within hfb.within hk1.size hyb.size hWs (by have := HSZ.out; omega) (by have := HSZ.out; omega) (by omega) (by omega) S2.out.1)
    clear HS S0 S1 S2 S3 S4 ha hb hfa hfb hya hyb hk1 hk2 HB HSZ HPZ HAT hWs
    go_wp2_with fail
    exact bodyPost_ret (v := .tuple #[.agg #[.int .i64 ka, .slice aa na capa], .agg #[.int .i64 kb, .slice ab nb capb], .bool true]) (by simp [results, Tryd.results179, go_sem, p0, p1, r0, r1]) rfl (FIN.out _ _ _ _)
  have HT := hid (mt_no (ts := ts) h1 h2)
  rw [mt_bad HT.out, mt_bad HT.out, HT.out]
  obtain ⟨a, cap, rfl⟩ := hs.shape
  have h1' : (k == 1) = false := by simpa using h1
  have h2' : (k != q) = true := by simpa using h2
  have h2'' : (k == q) = false := by simpa using h2
  obtain ⟨x0, x1, p0, p1, r0, r1, pz, rz⟩ := three_cells (Below.refl (((w.alloc (Obj.cells #[.int .i64 k, .slice a ts.length cap] 32)).alloc (Obj.cells #[.int .i64 0, .slice none 0 0] 32)).alloc (Obj.cells #[.int .i64 0, .slice none 0 0] 32)).heap.size _)
  have hbb := (((hB0.setCell (p := ⟨w.heap.size + 1, 0, none⟩) (by simp) (.int .i64 0)).setCell (p := ⟨w.heap.size + 1, 1, none⟩) (by simp) (.slice none 0 0)).setCell (p := ⟨w.heap.size + 1 + 1, 0, none⟩) (by simp; omega) (.int .i64 0)).setCell (p := ⟨w.heap.size + 1 + 1, 1, none⟩) (by simp; omega) (.slice none 0 0)
  clear x0 x1 p0 p1 r0 r1 pz rz
  have HAT0 := hid (hat.below hB0)
  have HV := hid hv
  clear hv hat hs hbb
  go_enter Tryd.func179, Tryd.ntmps179
  go_wp2_with fail
  refine (implTypeValid_any (.mk k ts) _ _ _ HAT0.out).mono ?_
  rintro e w2 ⟨he, hb⟩
  rw [HV.out] at he
  subst he
  obtain ⟨x0, x1, p0, p1, r0, r1, pz, rz⟩ := three_cells hb
  have hM : w.heap.size + 1 + 1 < w2.heap.size := by have := hb.size; simp at this; omega
  have hbb := (((((alloc3 hb).setCell (p := ⟨w.heap.size + 1, 0, none⟩) (by simp) (.int .i64 0)).setCell (p := ⟨w.heap.size + 1, 1, none⟩) (by simp) (.slice none 0 0)).setCell (p := ⟨w.heap.size + 1 + 1, 0, none⟩) (by simp; omega) (.int .i64 0)).setCell (p := ⟨w.heap.size + 1 + 1, 1, none⟩) (by simp; omega) (.slice none 0 0))
  go_wp2_with fail
  exact bodyPost_ret (v := .tuple #[.agg #[.int .i64 0, .slice none 0 0], .agg #[.int .i64 0, .slice none 0 0], .bool false]) (by simp [results, Tryd.results179, go_sem, p0, p1, r0, r1]) rfl (MadeTT.leaf hbb)

set_option maxHeartbeats 1000000 in
set_option maxRecDepth 100000 in
theorem matchKindA (q : Int) (hq : q = 4 ∨ q = 5) (t : Ty) (v : Value) (fp : List Nat) (w : World) (hat : t.At w v fp) : Calls Tryd.prog 179 #[v, .int .i64 q] w (MadeTT w (mtOf q 0 t) (mtOf q 1 t) (mtOk q t)) := by
  cases hv : vld t with
  | true => exact matchKind_any q hq t v fp w hat hv
  | false =>
    obtain ⟨k, n, a, cap, rfl⟩ := hat.agg
    have hB0 := (((Below.refl w.heap.size w).alloc (Nat.le_refl _) (Obj.cells #[.int .i64 k, .slice a n cap] 32)).alloc (by simp) (Obj.cells #[.int .i64 0, .slice none 0 0] 32)).alloc (by simp; omega) (Obj.cells #[.int .i64 0, .slice none 0 0] 32)
    have HT := hid (show mtOk q t = false by simp [mtOk, hv])
    rw [mt_bad HT.out, mt_bad HT.out, HT.out]
    have HV := hid hv
    have HAT := hid (hat.below hB0)
    clear hv hat hB0 hq
    go_enter Tryd.func179, Tryd.ntmps179
    go_wp2_with fail
    refine (implTypeValid_any t _ _ _ HAT.out).mono ?_
    rintro e w2 ⟨he, hb⟩
    rw [HV.out] at he
    subst he
    obtain ⟨x0, x1, p0, p1, r0, r1, pz, rz⟩ := three_cells hb
    have hM : w.heap.size + 1 + 1 < w2.heap.size := by have := hb.size; simp at this; omega
    have hbb := (((((alloc3 hb).setCell (p := ⟨w.heap.size + 1, 0, none⟩) (by simp) (.int .i64 0)).setCell (p := ⟨w.heap.size + 1, 1, none⟩) (by simp) (.slice none 0 0)).setCell (p := ⟨w.heap.size + 1 + 1, 0, none⟩) (by simp; omega) (.int .i64 0)).setCell (p := ⟨w.heap.size + 1 + 1, 1, none⟩) (by simp; omega) (.slice none 0 0))
    go_wp2_with fail
    exact bodyPost_ret (v := .tuple #[.agg #[.int .i64 0, .slice none 0 0], .agg #[.int .i64 0, .slice none 0 0], .bool false]) (by simp [results, Tryd.results179, go_sem, p0, p1, r0, r1]) rfl (MadeTT.leaf hbb)

set_option maxHeartbeats 1000000 in
set_option maxRecDepth 100000 in
theorem implMatchFun (t : Ty) (v : Value) (fp : List Nat) (w : World) (hat : t.At w v fp) (_ : t.cnt ≤ 1048576) : Calls Tryd.prog 153 #[v] w (MadeTT w (mtOf 4 0 t) (mtOf 4 1 t) (mtOk 4 t)) := by
  obtain ⟨k, n, a, cap, rfl⟩ := hat.agg
  have hB0 := (((Below.refl w.heap.size w).alloc (Nat.le_refl _) (Obj.cells #[.int .i64 k, .slice a n cap] 32)).alloc (by simp) (Obj.cells #[.int .i64 0, .slice none 0 0] 32)).alloc (by simp; omega) (Obj.cells #[.int .i64 0, .slice none 0 0] 32)
  have HAT := hid (hat.below hB0)
  have HM := hid (matchKindA 4 (by omega) t)
  generalize mtOf 4 0 t = T0 at *
  generalize mtOf 4 1 t = T1 at *
  generalize mtOk 4 t = ok at *
  clear hat hB0
  go_enter Tryd.func153, Tryd.ntmps153
  go_wp2_with fail
  refine (HM.out _ _ _ HAT.out).mono ?_
  rintro e w2 ⟨v1, v2, f1, f2, M, rfl, hu, hv, hf1, hf2, hi1, hi2, hM1, hM2, hb⟩
  obtain ⟨k1, n1, a1, cap1, rfl⟩ := hu.agg
  obtain ⟨k2, n2, a2, cap2, rfl⟩ := hv.agg
  obtain ⟨x0, x1, p0, p1, r0, r1, pz, rz⟩ := three_cells hb
  have hM : w.heap.size + 1 + 1 < w2.heap.size := by have := hb.size; simp at this; omega
  have FIN := hid (fun x z x' z' => MadeTT.stored (w := w) (ok := ok) (x := x) (y := z) (x' := x') (y' := z') (A := w.heap.size + 1) (B := w.heap.size + 1 + 1) (M := M) hu hv hf1 hf2 hi1 hi2 hM1 hM2 (by simp <;> omega) (by simp <;> omega) (by simp) (by omega) (by omega) (alloc3 hb))
  clear hu hv hf1 hf2 hi1 hi2 hM1 hM2 hb HAT HM
  go_wp2_with fail
  exact bodyPost_ret (v := .tuple #[.agg #[.int .i64 k1, .slice a1 n1 cap1], .agg #[.int .i64 k2, .slice a2 n2 cap2], .bool ok]) (by simp [results, Tryd.results153, go_sem, p0, p1, r0, r1]) rfl (FIN.out _ _ _ _)

set_option maxHeartbeats 1000000 in
set_option maxRecDepth 100000 in
theorem implMatchPair (t : Ty) (v : Value) (fp : List Nat) (w : World) (hat : t.At w v fp) (_ : t.cnt ≤ 1048576) : Calls Tryd.prog 180 #[v] w (MadeTT w (mtOf 5 0 t) (mtOf 5 1 t) (mtOk 5 t)) := by
  obtain ⟨k, n, a, cap, rfl⟩ := hat.agg
  have hB0 := (((Below.refl w.heap.size w).alloc (Nat.le_refl _) (Obj.cells #[.int .i64 k, .slice a n cap] 32)).alloc (by simp) (Obj.cells #[.int .i64 0, .slice none 0 0] 32)).alloc (by simp; omega) (Obj.cells #[.int .i64 0, .slice none 0 0] 32)
  have HAT := hid (hat.below hB0)
  have HM := hid (matchKindA 5 (by omega) t)
  generalize mtOf 5 0 t = T0 at *
  generalize mtOf 5 1 t = T1 at *
  generalize mtOk 5 t = ok at *
  clear hat hB0
  go_enter Tryd.func180, Tryd.ntmps180
  go_wp2_with fail
  refine (HM.out _ _ _ HAT.out).mono ?_
  rintro e w2 ⟨v1, v2, f1, f2, M, rfl, hu, hv, hf1, hf2, hi1, hi2, hM1, hM2, hb⟩
  obtain ⟨k1, n1, a1, cap1, rfl⟩ := hu.agg
  obtain ⟨k2, n2, a2, cap2, rfl⟩ := hv.agg
  obtain ⟨x0, x1, p0, p1, r0, r1, pz, rz⟩ := three_cells hb
  have hM : w.heap.size + 1 + 1 < w2.heap.size := by have := hb.size; simp at this; omega
  have FIN := hid (fun x z x' z' => MadeTT.stored (w := w) (ok := ok) (x := x) (y := z) (x' := x') (y' := z') (A := w.heap.size + 1) (B := w.heap.size + 1 + 1) (M := M) hu hv hf1 hf2 hi1 hi2 hM1 hM2 (by simp <;> omega) (by simp <;> omega) (by simp) (by omega) (by omega) (alloc3 hb))
  clear hu hv hf1 hf2 hi1 hi2 hM1 hM2 hb HAT HM
  go_wp2_with fail
  exact bodyPost_ret (v := .tuple #[.agg #[.int .i64 k1, .slice a1 n1 cap1], .agg #[.int .i64 k2, .slice a2 n2 cap2], .bool ok]) (by simp [results, Tryd.results180, go_sem, p0, p1, r0, r1]) rfl (FIN.out _ _ _ _)

end Go.Proofs.YtffmpjcjmffdeaaDoor

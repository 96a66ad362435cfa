/- The law on CtxValid: it returns true and writes nothing that was there. -/
import Derived.Test.YtfpkolleoglbiaaDrA
import Derived.Test.YtfpkolleoglbiaaCtxP
import Derived.Test.YtfpkolleoglbiaaApz
namespace Go.Proofs.Ytfpkolleoglbiaa
open Go.RowKit

theorem AtYs.one {w : World} : ∀ {ds : List Bd} {xs : List Value} {f : List Nat}, AtYs w ds xs f → (∀ u ∈ xs, u.oneCell' = true) ∧ xs.length = ds.length * 3
  | [], _, _, ⟨rfl, rfl⟩ => ⟨by simp, rfl⟩
  | d :: ds, _, _, ⟨x, y, z, r, f, g, rfl, rfl, ⟨k, n, a, c, hv, _, _⟩, h⟩ => by
    simp only [Value.agg.injEq, Array.mk.injEq, List.cons.injEq, and_true] at hv
    obtain ⟨rfl, rfl, rfl⟩ := hv
    obtain ⟨h1, h2⟩ := AtYs.one h
    refine ⟨fun u hu => ?_, by simp only [List.length_cons, h2]; omega⟩
    simp only [List.mem_cons] at hu
    rcases hu with rfl | rfl | rfl | hu
    · rfl
    · rfl
    · rfl
    · exact h1 u hu

theorem AtYs.append {w : World} : ∀ {ds es : List Bd} {xs ys : List Value} {f g : List Nat}, AtYs w ds xs f → AtYs w es ys g → AtYs w (ds ++ es) (xs ++ ys) (f ++ g)
  | [], _, _, _, _, _, ⟨rfl, rfl⟩, h => by simpa using h
  | _ :: _, _, _, _, _, _, ⟨x, y, z, r, f, g, rfl, rfl, hd, h⟩, h2 => ⟨x, y, z, _, f, _, by simp, by simp, hd, AtYs.append h h2⟩

theorem AtYs.below {w w' : World} {ds : List Bd} {xs : List Value} {f : List Nat} (h : AtYs w ds xs f) (hb : Below w.heap.size w w') : AtYs w' ds xs f :=
  h.congr fun b hm o => hb.cell (p := ⟨b, o, none⟩) (h.lt b hm)

/-- The row of a context that has been drawn: its cells. -/
theorem GrowB.row {B : Nat} {ds : List Bd} {v : Value} {f : List Nat} {w : World} (h : GrowB B ds v f w) : ∃ a cap xs, v = .slice a ds.length cap ∧ xs.length = ds.length * 3 ∧ (∀ u ∈ xs, u.oneCell' = true) ∧ AtYs w ds xs f ∧ (0 < ds.length → ∃ g, a = some ⟨g, 0, none⟩ ∧ g < w.heap.size ∧ ∀ j u, xs[j]? = some u → w.cell? ((⟨g, 0, none⟩ : Addr).add j) = some u) := by
  obtain ⟨xs, ho, ha, hf, hn⟩ := h
  obtain ⟨h1, h2⟩ := ha.one
  rcases ho.2 with ⟨rfl, h0⟩ | ⟨g, cap, cur, rfl, hb, hg, hc, hm, hsz, hx⟩
  · exact ⟨none, 0, xs, by rw [h0], h2, h1, ha, fun h => by omega⟩
  · refine ⟨some ⟨g, 0, none⟩, cap, xs, rfl, h2, h1, ha, fun _ => ⟨g, rfl, lt_of_block hg, fun j u hj => ?_⟩⟩
    have hadd : (⟨g, 0, none⟩ : Addr).add j = ⟨g, j, none⟩ := by rw [Addr.add_lit]; simp
    rw [hadd, cell_of_block hg, ← hj, ← hx, List.getElem?_take]
    have : j < xs.length := (List.getElem?_eq_some_iff.1 hj).1
    rw [if_pos (by omega)]
    simp

theorem both_at {w : World} {B g n cap : Nat} {ds : List Bd} {xs : List Value} {f : List Nat} (ho : w.ownsRow B 34 3 (.slice (some ⟨g, 0, none⟩) n cap) n xs) (ha : AtYs w ds xs f) (hn : n = ds.length) (hm : n ≤ maxLen) : ∃ fp, BsAt w ds (.slice (some ⟨g, 0, none⟩) n cap) fp := by
  subst hn
  rcases ho.2 with ⟨h1, h0⟩ | ⟨g', cap', cur, e, hb, hg, hc, hmx, hsz, hx⟩
  · cases h1
  · cases e
    by_cases h0 : ds.length = 0
    · exact ⟨[], .inl ⟨List.length_eq_zero_iff.1 h0, rfl, _, _, by rw [h0]⟩⟩
    · have hcell : ∀ j u, xs[j]? = some u → w.cell? ⟨g, 0 + j, none⟩ = some u := fun j u hj => by
        rw [Nat.zero_add, cell_of_block hg, ← hj, ← hx, List.getElem?_take]
        have : j < xs.length := (List.getElem?_eq_some_iff.1 hj).1
        rw [if_pos (by rw [ho.1] at this; exact this)]
        simp
      exact ⟨g :: f, .inr ⟨g, 0, cap, f, rfl, by omega, hc, hm, ha.atL hcell, rfl⟩⟩

theorem ctx_pure (A B : List Bd) (ha : A.length ≤ 3) (hb : B.length ≤ 3) : ctxOk (A ++ B) = (ctxOk A && ctxOk B) := by
  have h1 : decide (A.length ≤ 12) = true := by simp; omega
  have h2 : decide (B.length ≤ 12) = true := by simp; omega
  have h3 : decide ((A ++ B).length ≤ 12) = true := by simp; omega
  unfold ctxOk
  rw [h1, h2, h3, List.all_append]
  simp

set_option linter.unusedSimpArgs false in
set_option linter.unusedVariables false in
set_option maxRecDepth 100000 in
set_option maxHeartbeats 8000000 in
theorem lawCtxValid2 (a0 : Option Addr) (n0 cap0 : Nat) (a9 : Option Addr) (n9 cap9 : Nat) (w : World) (hB : BytA w a0 n0) (hn : n0 ≤ cap0) (hm : cap0 ≤ maxLen) (hB9 : BytA w a9 n9) (hn9 : n9 ≤ cap9) (hm9 : cap9 ≤ maxLen) :
    Calls Try.prog 3 #[.slice a0 n0 cap0, .slice a9 n9 cap9] w fun e w' => e = .returned (.bool true) ∧ Below w.heap.size w w' := by
  by_cases hl : (n0 : Int) > 1048576
  · clear hB hB9
    go_enter Try.func3, Try.ntmps3
    go_wp2_with fail
    go_ret
    exact ⟨rfl, Below.refl _ _⟩
  by_cases hl9 : (n9 : Int) > 1048576
  · clear hB hB9
    go_enter Try.func3, Try.ntmps3
    go_wp2_with fail
    go_ret
    exact ⟨rfl, Below.refl _ _⟩
  obtain ⟨i0, hi0, hz0, hz1, hz2⟩ := info_parts (P := Try.prog) (e := 34) Try.infoBd
  have HD := hid (drawCtx_any a0 n0 cap0 w hB hn hm)
  have HD9 := hid (fun (W : World) (h : Below w.heap.size w W) => drawCtx_any a9 n9 cap9 W (hB9.below h) hn9 hm9)
  clear hB hB9
  go_enter Try.func3, Try.ntmps3
  go_wp2_with fail
  refine HD.out.mono ?_
  rintro e w1 ⟨A, vA, fA, rfl, hA3, hGA, hbA⟩
  have HBA := hid hbA
  have HGA := hid hGA
  obtain ⟨aA, cA, rfl⟩ := hGA.shape
  clear hbA hGA
  go_wp2_with fail
  refine (HD9.out _ HBA.out).mono ?_
  rintro e w2 ⟨Bs, vB, fB, rfl, hB3, hGB, hbB⟩
  obtain ⟨aB, cB, rfl⟩ := hGB.shape
  have hGA2 := HGA.out.below hbB
  obtain ⟨fpA, hsA, -⟩ := hGA2.done2 (by unfold maxLen; omega)
  obtain ⟨fpB, hsB, -⟩ := hGB.done2 (by unfold maxLen; omega)
  have HBL := hid (below_trans HBA.out hbB)
  have HIA := hid (fun (W : World) (h : Below w2.heap.size w2 W) => implCtxValid A _ _ W (hsA.below h))
  have HIB := hid (fun (W : World) (h : Below w2.heap.size w2 W) => implCtxValid Bs _ _ W (hsB.below h))
  have HSA := hid (fun (W : World) (h : Below w2.heap.size w2 W) => specCtxValid A _ _ W (hsA.below h))
  have HPU := hid (ctx_pure A Bs hA3 hB3)
  have HRA := hid hGA2.row
  have HRB := hid hGB.row
  have h0 := Below.refl w2.heap.size w2
  generalize hp : ctxOk A = p at *
  generalize hq : ctxOk Bs = q at *
  clear hsA hsB hGA2 hGB hbB hp hq
  go_wp2_with fail
  refine (HIA.out _ h0).mono ?_
  rintro e w3 ⟨rfl, hb3⟩
  go_wp2_with fail
  refine (HIB.out _ hb3).mono ?_
  rintro e w4 ⟨rfl, hb4⟩
  have hb24 := below_trans hb3 hb4
  have HB24 := hid hb24
  have HNW := hid (GrowB.new (B := w4.heap.size) (w := w4) (Nat.le_refl _))
  clear hb3 hb4 h0 HIA HIB
  obtain ⟨aA', cA', xA, eA, hxA, h1A, hYA, hrA⟩ := HRA.out
  obtain ⟨aB', cB', xB, eB, hxB, h1B, hYB, hrB⟩ := HRB.out
  simp only [Value.slice.injEq, true_and] at eA eB
  obtain ⟨rfl, rfl⟩ := eA
  obtain ⟨rfl, rfl⟩ := eB
  by_cases hA0 : 0 < A.length
  · by_cases hB0 : 0 < Bs.length
    · obtain ⟨gA, rfl, hgA, hnA⟩ := hrA (by omega)
      obtain ⟨gB, rfl, hgB, hnB⟩ := hrB (by omega)
      have halN : Below w4.heap.size w4 (w4.alloc (Obj.cells #[] 34)) := (Below.refl _ _).alloc (Nat.le_refl _) _
      have hs24 := HB24.out.size
      have HOWN := hid (show (w4.alloc (Obj.cells #[] 34)).ownsRow w4.heap.size 34 3 (.slice (some ⟨w4.heap.size, 0, none⟩) 0 0) 0 [] from ⟨rfl, .inr ⟨w4.heap.size, 0, #[], rfl, Nat.le_refl _, alloc_new _ _, Nat.le_refl _, Nat.zero_le _, rfl, rfl⟩⟩)
      have hle13 : ¬ (((A.length : Nat) : Int) + ((Bs.length : Nat) : Int) > 12) := by omega
      have hle14 : ¬ (((A.length + Bs.length : Nat) : Int) > 12) := by omega
      have hnA2 : ∀ j u, xA[j]? = some u → (w4.alloc (Obj.cells #[] 34)).cell? ((⟨gA, 0, none⟩ : Addr).add j) = some u := fun j u hj => cell_keep (cell_keep (hnA j u hj) HB24.out) halN
      have hnB2 : ∀ j u, xB[j]? = some u → (w4.alloc (Obj.cells #[] 34)).cell? ((⟨gB, 0, none⟩ : Addr).add j) = some u := fun j u hj => cell_keep (cell_keep (hnB j u hj) HB24.out) halN
      go_wp2_with (first | (refine wpList_append_lies _ rfl (.tmp 26) (.tmp 27) 23 rfl w4.heap.size 34 i0 _ 3 48 Try.underBds hi0 hz0 hz1 hz2 rfl (by omega) (.slice (some ⟨w4.heap.size, 0, none⟩) 0 0) 0 [] (by first | rfl | simp) (HOWN.out) ⟨gA, 0, none⟩ A.length cA xA rfl hxA hnA2 h1A (by omega) (by unfold maxLen; omega) (by omega) (by first | omega | (simp; done) | (simp; omega)) (w4.heap.size + 1) (by simp) ?_; intro g5 cp5 w5 hown5 hgrow5 hat5 hlt5; simp only [Nat.zero_add, List.nil_append] at hown5 ⊢; have hB5 : Below w4.heap.size (w4.alloc (Obj.cells #[] 34)) w5 := (Below.refl _ _).grown hgrow5 (by simp) (fun b hb => by have : w4.heap.size = b := (by simpa [Value.ownBlock] using hb); omega); have hs5 : w4.heap.size + 1 ≤ w5.heap.size := (by simpa using hB5.size)) | (refine wpList_append_lies _ rfl (.tmp 28) (.tmp 29) 23 rfl w4.heap.size 34 i0 _ 3 48 Try.underBds hi0 hz0 hz1 hz2 rfl (by omega) (.slice (some ⟨g5, 0, none⟩) A.length cp5) A.length xA (by first | rfl | simp) (hown5) ⟨gB, 0, none⟩ Bs.length cB xB rfl hxB (fun j u hj => (hB5.cell (p := (⟨gB, 0, none⟩ : Addr).add j) (by rw [add_block]; show gB < w4.heap.size; omega)).trans (hnB2 j u hj)) h1B (by omega) (by unfold maxLen; omega) (by omega) (by first | omega | (simp; done) | (simp; omega)) w5.heap.size rfl ?_; intro g6 cp6 w6 hown6 hgrow6 hat6 hlt6; have hB6 : Below w4.heap.size (w4.alloc (Obj.cells #[] 34)) w6 := hB5.trans ((Below.refl _ _).grown hgrow6 (by omega) (fun b hb => (hown5.lt b hb).1))))
      have hbz2 : Below w2.heap.size w2 w6 := HB24.out.trans ((halN.trans (hB6)).mono hs24)
      have HBX := hid hbz2
      obtain ⟨fpz, hsz⟩ := both_at hown6 ((hYA.below hbz2).append (hYB.below hbz2)) (by first | rfl | simp) (by unfold maxLen; omega)
      have HBO := hid (fun (W : World) (h : Below (w6).heap.size w6 W) => implCtxValid (A ++ Bs) _ _ W (hsz.below h))
      have HPV := hid (show ctxOk (A ++ Bs) = (p && q) by have := HPU.out; simpa using this)
      rw [HPV.out] at HBO
      cases p
      · cases q
        · simp only [Bool.false_and, Bool.and_false, Bool.true_and] at HBO
          refine (HSA.out _ HBX.out).mono ?_
          rintro e y1 ⟨rfl, hy1⟩
          have hy1' := HBX.out.trans (hy1.mono HBX.out.size)
          go_wp2_with fail
          refine (HBO.out _ hy1).mono ?_
          rintro e y2 ⟨rfl, hy2⟩
          go_wp2_with fail
          go_ret
          exact ⟨rfl, HBL.out.trans ((hy1'.trans (hy2.mono hy1'.size)).mono HBL.out.size)⟩
        · simp only [Bool.false_and, Bool.and_false, Bool.true_and] at HBO
          refine (HSA.out _ HBX.out).mono ?_
          rintro e y1 ⟨rfl, hy1⟩
          have hy1' := HBX.out.trans (hy1.mono HBX.out.size)
          go_wp2_with fail
          refine (HBO.out _ hy1).mono ?_
          rintro e y2 ⟨rfl, hy2⟩
          go_wp2_with fail
          go_ret
          exact ⟨rfl, HBL.out.trans ((hy1'.trans (hy2.mono hy1'.size)).mono HBL.out.size)⟩
      · cases q
        · simp only [Bool.false_and, Bool.and_false, Bool.true_and] at HBO
          refine (HSA.out _ HBX.out).mono ?_
          rintro e y1 ⟨rfl, hy1⟩
          have hy1' := HBX.out.trans (hy1.mono HBX.out.size)
          go_wp2_with fail
          refine (HBO.out _ hy1).mono ?_
          rintro e y2 ⟨rfl, hy2⟩
          go_wp2_with fail
          go_ret
          exact ⟨rfl, HBL.out.trans ((hy1'.trans (hy2.mono hy1'.size)).mono HBL.out.size)⟩
        · simp only [Bool.false_and, Bool.and_false, Bool.true_and] at HBO
          refine (HSA.out _ HBX.out).mono ?_
          rintro e y1 ⟨rfl, hy1⟩
          have hy1' := HBX.out.trans (hy1.mono HBX.out.size)
          go_wp2_with fail
          refine (HBO.out _ hy1).mono ?_
          rintro e y2 ⟨rfl, hy2⟩
          go_wp2_with fail
          go_ret
          exact ⟨rfl, HBL.out.trans ((hy1'.trans (hy2.mono hy1'.size)).mono HBL.out.size)⟩
    · obtain ⟨gA, rfl, hgA, hnA⟩ := hrA (by omega)
      have hB1 : Bs.length = 0 := by omega
      obtain rfl : Bs = [] := List.length_eq_zero_iff.1 hB1
      simp only [List.length_nil] at *
      have halN : Below w4.heap.size w4 (w4.alloc (Obj.cells #[] 34)) := (Below.refl _ _).alloc (Nat.le_refl _) _
      have hs24 := HB24.out.size
      have HOWN := hid (show (w4.alloc (Obj.cells #[] 34)).ownsRow w4.heap.size 34 3 (.slice (some ⟨w4.heap.size, 0, none⟩) 0 0) 0 [] from ⟨rfl, .inr ⟨w4.heap.size, 0, #[], rfl, Nat.le_refl _, alloc_new _ _, Nat.le_refl _, Nat.zero_le _, rfl, rfl⟩⟩)
      have hle13 : ¬ (((A.length : Nat) : Int) + ((0 : Nat) : Int) > 12) := by omega
      have hle14 : ¬ (((A.length + 0 : Nat) : Int) > 12) := by omega
      have hnA2 : ∀ j u, xA[j]? = some u → (w4.alloc (Obj.cells #[] 34)).cell? ((⟨gA, 0, none⟩ : Addr).add j) = some u := fun j u hj => cell_keep (cell_keep (hnA j u hj) HB24.out) halN
      go_wp2_with (first | (refine wpList_append_lies _ rfl (.tmp 26) (.tmp 27) 23 rfl w4.heap.size 34 i0 _ 3 48 Try.underBds hi0 hz0 hz1 hz2 rfl (by omega) (.slice (some ⟨w4.heap.size, 0, none⟩) 0 0) 0 [] (by first | rfl | simp) (HOWN.out) ⟨gA, 0, none⟩ A.length cA xA rfl hxA hnA2 h1A (by omega) (by unfold maxLen; omega) (by omega) (by first | omega | (simp; done) | (simp; omega)) (w4.heap.size + 1) (by simp) ?_; intro g5 cp5 w5 hown5 hgrow5 hat5 hlt5; simp only [Nat.zero_add, List.nil_append] at hown5 ⊢; have hB5 : Below w4.heap.size (w4.alloc (Obj.cells #[] 34)) w5 := (Below.refl _ _).grown hgrow5 (by simp) (fun b hb => by have : w4.heap.size = b := (by simpa [Value.ownBlock] using hb); omega); have hs5 : w4.heap.size + 1 ≤ w5.heap.size := (by simpa using hB5.size)) | (refine wpList_append_zero rfl (.tmp 28) (.tmp 29) 23 rfl 34 i0 Try.underBds hi0 _ _ _ rfl (by rcases hown5.2 with ⟨h1, _⟩ | ⟨g1, c1, cu1, e1, _, _, hc1, _⟩ <;> first | (cases h1; done) | (cases e1; exact hc1)) _ _ rfl ?_))
      have hbz2 : Below w2.heap.size w2 w5 := HB24.out.trans ((halN.trans (hB5)).mono hs24)
      have HBX := hid hbz2
      obtain ⟨fpz, hsz⟩ := both_at hown5 (hYA.below hbz2) (by first | rfl | simp) (by unfold maxLen; omega)
      have HBO := hid (fun (W : World) (h : Below (w5).heap.size w5 W) => implCtxValid A _ _ W (hsz.below h))
      have HPV := hid (show ctxOk A = (p && q) by have := HPU.out; simpa using this)
      rw [HPV.out] at HBO
      cases p
      · cases q
        · simp only [Bool.false_and, Bool.and_false, Bool.true_and] at HBO
          refine (HSA.out _ HBX.out).mono ?_
          rintro e y1 ⟨rfl, hy1⟩
          have hy1' := HBX.out.trans (hy1.mono HBX.out.size)
          go_wp2_with fail
          refine (HBO.out _ hy1).mono ?_
          rintro e y2 ⟨rfl, hy2⟩
          go_wp2_with fail
          go_ret
          exact ⟨rfl, HBL.out.trans ((hy1'.trans (hy2.mono hy1'.size)).mono HBL.out.size)⟩
        · simp only [Bool.false_and, Bool.and_false, Bool.true_and] at HBO
          refine (HSA.out _ HBX.out).mono ?_
          rintro e y1 ⟨rfl, hy1⟩
          have hy1' := HBX.out.trans (hy1.mono HBX.out.size)
          go_wp2_with fail
          refine (HBO.out _ hy1).mono ?_
          rintro e y2 ⟨rfl, hy2⟩
          go_wp2_with fail
          go_ret
          exact ⟨rfl, HBL.out.trans ((hy1'.trans (hy2.mono hy1'.size)).mono HBL.out.size)⟩
      · cases q
        · simp only [Bool.false_and, Bool.and_false, Bool.true_and] at HBO
          refine (HSA.out _ HBX.out).mono ?_
          rintro e y1 ⟨rfl, hy1⟩
          have hy1' := HBX.out.trans (hy1.mono HBX.out.size)
          go_wp2_with fail
          refine (HBO.out _ hy1).mono ?_
          rintro e y2 ⟨rfl, hy2⟩
          go_wp2_with fail
          go_ret
          exact ⟨rfl, HBL.out.trans ((hy1'.trans (hy2.mono hy1'.size)).mono HBL.out.size)⟩
        · simp only [Bool.false_and, Bool.and_false, Bool.true_and] at HBO
          refine (HSA.out _ HBX.out).mono ?_
          rintro e y1 ⟨rfl, hy1⟩
          have hy1' := HBX.out.trans (hy1.mono HBX.out.size)
          go_wp2_with fail
          refine (HBO.out _ hy1).mono ?_
          rintro e y2 ⟨rfl, hy2⟩
          go_wp2_with fail
          go_ret
          exact ⟨rfl, HBL.out.trans ((hy1'.trans (hy2.mono hy1'.size)).mono HBL.out.size)⟩
  · by_cases hB0 : 0 < Bs.length
    · have hA1 : A.length = 0 := by omega
      obtain rfl : A = [] := List.length_eq_zero_iff.1 hA1
      simp only [List.length_nil] at *
      obtain ⟨gB, rfl, hgB, hnB⟩ := hrB (by omega)
      have halN : Below w4.heap.size w4 (w4.alloc (Obj.cells #[] 34)) := (Below.refl _ _).alloc (Nat.le_refl _) _
      have hs24 := HB24.out.size
      have HOWN := hid (show (w4.alloc (Obj.cells #[] 34)).ownsRow w4.heap.size 34 3 (.slice (some ⟨w4.heap.size, 0, none⟩) 0 0) 0 [] from ⟨rfl, .inr ⟨w4.heap.size, 0, #[], rfl, Nat.le_refl _, alloc_new _ _, Nat.le_refl _, Nat.zero_le _, rfl, rfl⟩⟩)
      have hle13 : ¬ (((0 : Nat) : Int) + ((Bs.length : Nat) : Int) > 12) := by omega
      have hle14 : ¬ (((0 + Bs.length : Nat) : Int) > 12) := by omega
      have hnB2 : ∀ j u, xB[j]? = some u → (w4.alloc (Obj.cells #[] 34)).cell? ((⟨gB, 0, none⟩ : Addr).add j) = some u := fun j u hj => cell_keep (cell_keep (hnB j u hj) HB24.out) halN
      go_wp2_with (first | (refine wpList_append_zero rfl (.tmp 26) (.tmp 27) 23 rfl 34 i0 Try.underBds hi0 _ _ _ rfl (by omega) _ _ rfl ?_) | (refine wpList_append_lies _ rfl (.tmp 28) (.tmp 29) 23 rfl w4.heap.size 34 i0 _ 3 48 Try.underBds hi0 hz0 hz1 hz2 rfl (by omega) (.slice (some ⟨w4.heap.size, 0, none⟩) 0 0) 0 [] (by first | rfl | simp) (HOWN.out) ⟨gB, 0, none⟩ Bs.length cB xB rfl hxB hnB2 h1B (by omega) (by unfold maxLen; omega) (by omega) (by first | omega | (simp; done) | (simp; omega)) (w4.heap.size + 1) (by simp) ?_; intro g6 cp6 w6 hown6 hgrow6 hat6 hlt6; simp only [Nat.zero_add, List.nil_append] at hown6 ⊢; have hB6 : Below w4.heap.size (w4.alloc (Obj.cells #[] 34)) w6 := (Below.refl _ _).grown hgrow6 (by simp) (fun b hb => by have : w4.heap.size = b := (by simpa [Value.ownBlock] using hb); omega)))
      have hbz2 : Below w2.heap.size w2 w6 := HB24.out.trans ((halN.trans (hB6)).mono hs24)
      have HBX := hid hbz2
      obtain ⟨fpz, hsz⟩ := both_at hown6 (hYB.below hbz2) (by first | rfl | simp) (by unfold maxLen; omega)
      have HBO := hid (fun (W : World) (h : Below (w6).heap.size w6 W) => implCtxValid Bs _ _ W (hsz.below h))
      have HPV := hid (show ctxOk Bs = (p && q) by have := HPU.out; simpa using this)
      rw [HPV.out] at HBO
      cases p
      · cases q
        · simp only [Bool.false_and, Bool.and_false, Bool.true_and] at HBO
          refine (HSA.out _ HBX.out).mono ?_
          rintro e y1 ⟨rfl, hy1⟩
          have hy1' := HBX.out.trans (hy1.mono HBX.out.size)
          go_wp2_with fail
          refine (HBO.out _ hy1).mono ?_
          rintro e y2 ⟨rfl, hy2⟩
          go_wp2_with fail
          go_ret
          exact ⟨rfl, HBL.out.trans ((hy1'.trans (hy2.mono hy1'.size)).mono HBL.out.size)⟩
        · simp only [Bool.false_and, Bool.and_false, Bool.true_and] at HBO
          refine (HSA.out _ HBX.out).mono ?_
          rintro e y1 ⟨rfl, hy1⟩
          have hy1' := HBX.out.trans (hy1.mono HBX.out.size)
          go_wp2_with fail
          refine (HBO.out _ hy1).mono ?_
          rintro e y2 ⟨rfl, hy2⟩
          go_wp2_with fail
          go_ret
          exact ⟨rfl, HBL.out.trans ((hy1'.trans (hy2.mono hy1'.size)).mono HBL.out.size)⟩
      · cases q
        · simp only [Bool.false_and, Bool.and_false, Bool.true_and] at HBO
          refine (HSA.out _ HBX.out).mono ?_
          rintro e y1 ⟨rfl, hy1⟩
          have hy1' := HBX.out.trans (hy1.mono HBX.out.size)
          go_wp2_with fail
          refine (HBO.out _ hy1).mono ?_
          rintro e y2 ⟨rfl, hy2⟩
          go_wp2_with fail
          go_ret
          exact ⟨rfl, HBL.out.trans ((hy1'.trans (hy2.mono hy1'.size)).mono HBL.out.size)⟩
        · simp only [Bool.false_and, Bool.and_false, Bool.true_and] at HBO
          refine (HSA.out _ HBX.out).mono ?_
          rintro e y1 ⟨rfl, hy1⟩
          have hy1' := HBX.out.trans (hy1.mono HBX.out.size)
          go_wp2_with fail
          refine (HBO.out _ hy1).mono ?_
          rintro e y2 ⟨rfl, hy2⟩
          go_wp2_with fail
          go_ret
          exact ⟨rfl, HBL.out.trans ((hy1'.trans (hy2.mono hy1'.size)).mono HBL.out.size)⟩
    · have hA1 : A.length = 0 := by omega
      obtain rfl : A = [] := List.length_eq_zero_iff.1 hA1
      simp only [List.length_nil] at *
      have hB1 : Bs.length = 0 := by omega
      obtain rfl : Bs = [] := List.length_eq_zero_iff.1 hB1
      simp only [List.length_nil] at *
      have halN : Below w4.heap.size w4 (w4.alloc (Obj.cells #[] 34)) := (Below.refl _ _).alloc (Nat.le_refl _) _
      have hs24 := HB24.out.size
      have HOWN := hid (show (w4.alloc (Obj.cells #[] 34)).ownsRow w4.heap.size 34 3 (.slice (some ⟨w4.heap.size, 0, none⟩) 0 0) 0 [] from ⟨rfl, .inr ⟨w4.heap.size, 0, #[], rfl, Nat.le_refl _, alloc_new _ _, Nat.le_refl _, Nat.zero_le _, rfl, rfl⟩⟩)
      have hle13 : ¬ (((0 : Nat) : Int) + ((0 : Nat) : Int) > 12) := by omega
      have hle14 : ¬ (((0 + 0 : Nat) : Int) > 12) := by omega
      go_wp2_with (first | (refine wpList_append_zero rfl (.tmp 26) (.tmp 27) 23 rfl 34 i0 Try.underBds hi0 _ _ _ rfl (by omega) _ _ rfl ?_) | (refine wpList_append_zero rfl (.tmp 28) (.tmp 29) 23 rfl 34 i0 Try.underBds hi0 _ _ _ rfl (by omega) _ _ rfl ?_))
      have hbz2 : Below w2.heap.size w2 (w4.alloc (Obj.cells #[] 34)) := HB24.out.trans ((halN.trans ((Below.refl _ _))).mono hs24)
      have HBX := hid hbz2
      obtain ⟨fpz, hsz⟩ := both_at HOWN.out (show AtYs _ [] [] [] from ⟨rfl, rfl⟩) (by first | rfl | simp) (by unfold maxLen; omega)
      have HBO := hid (fun (W : World) (h : Below ((w4.alloc (Obj.cells #[] 34))).heap.size (w4.alloc (Obj.cells #[] 34)) W) => implCtxValid [] _ _ W (hsz.below h))
      have HPV := hid (show ctxOk [] = (p && q) by have := HPU.out; simpa using this)
      rw [HPV.out] at HBO
      cases p
      · cases q
        · simp only [Bool.false_and, Bool.and_false, Bool.true_and] at HBO
          refine (HSA.out _ HBX.out).mono ?_
          rintro e y1 ⟨rfl, hy1⟩
          have hy1' := HBX.out.trans (hy1.mono HBX.out.size)
          go_wp2_with fail
          refine (HBO.out _ hy1).mono ?_
          rintro e y2 ⟨rfl, hy2⟩
          go_wp2_with fail
          go_ret
          exact ⟨rfl, HBL.out.trans ((hy1'.trans (hy2.mono hy1'.size)).mono HBL.out.size)⟩
        · simp only [Bool.false_and, Bool.and_false, Bool.true_and] at HBO
          refine (HSA.out _ HBX.out).mono ?_
          rintro e y1 ⟨rfl, hy1⟩
          have hy1' := HBX.out.trans (hy1.mono HBX.out.size)
          go_wp2_with fail
          refine (HBO.out _ hy1).mono ?_
          rintro e y2 ⟨rfl, hy2⟩
          go_wp2_with fail
          go_ret
          exact ⟨rfl, HBL.out.trans ((hy1'.trans (hy2.mono hy1'.size)).mono HBL.out.size)⟩
      · cases q
        · simp only [Bool.false_and, Bool.and_false, Bool.true_and] at HBO
          refine (HSA.out _ HBX.out).mono ?_
          rintro e y1 ⟨rfl, hy1⟩
          have hy1' := HBX.out.trans (hy1.mono HBX.out.size)
          go_wp2_with fail
          refine (HBO.out _ hy1).mono ?_
          rintro e y2 ⟨rfl, hy2⟩
          go_wp2_with fail
          go_ret
          exact ⟨rfl, HBL.out.trans ((hy1'.trans (hy2.mono hy1'.size)).mono HBL.out.size)⟩
        · simp only [Bool.false_and, Bool.and_false, Bool.true_and] at HBO
          refine (HSA.out _ HBX.out).mono ?_
          rintro e y1 ⟨rfl, hy1⟩
          have hy1' := HBX.out.trans (hy1.mono HBX.out.size)
          go_wp2_with fail
          refine (HBO.out _ hy1).mono ?_
          rintro e y2 ⟨rfl, hy2⟩
          go_wp2_with fail
          go_ret
          exact ⟨rfl, HBL.out.trans ((hy1'.trans (hy2.mono hy1'.size)).mono HBL.out.size)⟩
end Go.Proofs.Ytfpkolleoglbiaa

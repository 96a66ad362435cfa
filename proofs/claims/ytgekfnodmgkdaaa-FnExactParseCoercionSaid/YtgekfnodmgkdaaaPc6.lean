/- The program's readProject and readFunOrPair; readCoercion whole. -/
import Derived.Test.YtgekfnodmgkdaaaPc5
namespace Go.Proofs.Ytgekfnodmgkdaaa
open Go.RowKit

theorem Cx.coK {U : Nat} {w w' : World} (hx : Cx U w w') {t : Co} {x : Value} {fp : List Nat} (h : t.At w x fp) (hn : ∀ b ∈ fp, b ≠ U) : t.At w' x fp :=
  h.congr fun b hb o => World.cell?_of_block (w := w) (a := ⟨b, o, none⟩) (hx.block b (h.lt b hb) (fun e => hn b hb (Option.some.inj e)))

theorem rdl_rng {s : ByteArray} {i j : Nat} {l : Int} (h : rdl s i = some (l, j)) : -99 ≤ l ∧ l ≤ 99 := by
  unfold rdl at h
  split at h
  · split at h
    · rename_i h99
      simp only [Option.some.injEq, Prod.mk.injEq] at h
      obtain ⟨rfl, _⟩ := h
      split <;> omega
    · cases h
  · cases h

theorem Fresh.join {B B' : Nat} {w : World} {f1 f2 : List Nat} (h1 : Fresh B w f1) (h2 : Fresh B' w f2) (hlt : ∀ x ∈ f1, x < B') (hB : B ≤ B') : Fresh B w (f1 ++ f2) :=
  ⟨List.nodup_append.2 ⟨h1.1, h2.1, fun a ha c hc e => by subst e; have := hlt a ha; have := (h2.2 a hc).1; omega⟩, fun x hx => by
    rcases List.mem_append.1 hx with hx | hx
    · exact h1.2 x hx
    · exact ⟨Nat.le_trans hB (h2.2 x hx).1, (h2.2 x hx).2⟩⟩

set_option linter.unusedVariables false in
set_option linter.unusedSimpArgs false in
set_option maxHeartbeats 1000000 in
theorem readProject_of (d : Nat) (ih : RkC d) : RpC d := by
  intro n b s i w hn0 hn hc
  have HIH := hid ih
  have HN := hid hn
  clear ih
  have hb := hc.lt
  have H := hid (hc.below ((Below.refl _ _).alloc (Nat.le_refl _) (Obj.cells #[.int .i64 0, .int .i64 0, .int .i64 0, .slice none 0 0] 44)))
  clear hn hc
  go_enter Try.func68, Try.ntmps68
  go_wp2_with fail
  refine (readLabel_any b s i _ H.out).mono ?_
  rintro e w1 (⟨hr, L, j, rfl, hc1, hx1⟩ | ⟨lb, j, hr, rfl, hc1, hx1⟩)
  · have HR := hid (show prcPrj s (prc s d) i = none by rw [prcPrj, hr])
    obtain ⟨r0, r1, r2, r3, rz, hM⟩ := rk_box hx1 hb
    obtain ⟨g1, g2, g3⟩ := rk_put hx1 hb hc1 (.int .i64 0) (.int .i64 0) (.int .i64 0) (.slice none 0 0)
    have q5 := cell_of_block (o := 0) g3
    have q6 := cell_of_block (o := 1) g3
    have q7 := cell_of_block (o := 2) g3
    have q8 := cell_of_block (o := 3) g3
    simp at q5 q6 q7 q8
    have HG := hid (And.intro g1 g2)
    clear g1 g2 g3
    clear hx1 hc1 hr
    go_wp2_with fail
    exact bodyPost_ret (v := .tuple #[.agg #[.int .i64 0, .int .i64 0, .int .i64 0, .slice none 0 0], .bool false]) (by simp [results, Try.results68, go_sem, q5, q6, q7, q8]) rfl (.inl ⟨HR.out, _, _, _, _, _, _, rfl, ⟨_, HG.out.1⟩, HG.out.2⟩)
  have HC1 := hid hc1
  have HX1 := hid hx1
  have hrg := rdl_rng hr
  clear hc1 hx1
  by_cases hs : byt s j = 46
  case neg =>
    have HR := hid (show prcPrj s (prc s d) i = none by simp only [prcPrj, hr, if_neg hs])
    have q9 : ((byt s j : Int) != 46) = true := by simp; omega
    have q10 : ((byt s j : Int) == 46) = false := by simp; omega
    clear hr hs
    go_wp2_with fail
    refine (next_any b s j _ HC1.out).mono ?_
    rintro e w2 ⟨rfl, hc2, hx2⟩
    have hxx := HX1.out.trans hx2
    obtain ⟨r0, r1, r2, r3, rz, hM⟩ := rk_box hxx hb
    obtain ⟨g1, g2, g3⟩ := rk_put hxx hb hc2 (.int .i64 0) (.int .i64 0) (.int .i64 0) (.slice none 0 0)
    have q5 := cell_of_block (o := 0) g3
    have q6 := cell_of_block (o := 1) g3
    have q7 := cell_of_block (o := 2) g3
    have q8 := cell_of_block (o := 3) g3
    simp at q5 q6 q7 q8
    have HG := hid (And.intro g1 g2)
    clear g1 g2 g3
    clear hxx hc2 hx2
    go_wp2_with fail
    exact bodyPost_ret (v := .tuple #[.agg #[.int .i64 0, .int .i64 0, .int .i64 0, .slice none 0 0], .bool false]) (by simp [results, Try.results68, go_sem, q5, q6, q7, q8]) rfl (.inl ⟨HR.out, _, _, _, _, _, _, rfl, ⟨_, HG.out.1⟩, HG.out.2⟩)
  have HX := hid (nxt_in (s := s) (i := j) (by omega))
  have HS := hid hs
  have HR0 := hid (show prcPrj s (prc s d) i = (match prc s d (j + 1) with | none => none | some (a, m) => some (.mk 5 0 lb [a], m)) by simp only [prcPrj, hr, if_pos hs] <;> rfl)
  clear hr hs
  go_wp2_with fail
  refine (next_any b s j _ HC1.out).mono ?_
  rw [HS.out, HX.out]
  rintro e w2 ⟨rfl, hc2, hx2⟩
  have HC2 := hid hc2
  have HX2 := hid (HX1.out.trans hx2)
  have hsz2 : w.heap.size < w2.heap.size := by have := HX2.out.size; simp at this; omega
  clear hc2 hx2
  go_wp2_with fail
  refine (HIH.out n b s (j + 1) _ hn0 HN.out HC2.out).mono ?_
  rintro e w3 (⟨hr, k, g, l, a, m, cap, rfl, ⟨j3, hc3⟩, hx3⟩ | ⟨t, j3, k, g, l, a, m, cap, fp, hr, rfl, hat, hf, hc3, hx3⟩)
  · have hal : Below w3.heap.size w3 (w3.alloc (Obj.cells #[.int .i64 k, .int .i64 g, .int .i64 l, .slice a m cap] 44)) := (Below.refl _ _).alloc (Nat.le_refl _) _
    have HR := hid (show prcPrj s (prc s d) i = none by rw [HR0.out, hr])
    have HC3 := hid (hc3.below hal)
    have HX3 := hid (HX2.out.trans (hx3.trans (Cx.of_below hal)))
    clear hr hc3 hx3 hal
    go_wp2_with fail
    refine (projectOf_any lb k g l a m cap _).mono ?_
    rintro e w4 ⟨bb, rfl, hE, hge, hb4⟩
    simp at hge
    have hc4 := HC3.out.below hb4
    have hxx := HX3.out.trans (Cx.of_below hb4)
    obtain ⟨r0, r1, r2, r3, rz, hM⟩ := rk_box hxx hb
    obtain ⟨g1, g2, g3⟩ := rk_put hxx hb hc4 (.int .i64 5) (.int .i64 0) (.int .i64 lb) (.slice (some ⟨bb, 0, none⟩) 1 1)
    have q5 := cell_of_block (o := 0) g3
    have q6 := cell_of_block (o := 1) g3
    have q7 := cell_of_block (o := 2) g3
    have q8 := cell_of_block (o := 3) g3
    simp at q5 q6 q7 q8
    have HG := hid (And.intro g1 g2)
    clear g1 g2 g3
    clear hxx hc4
    go_wp2_with fail
    exact bodyPost_ret (v := .tuple #[.agg #[.int .i64 5, .int .i64 0, .int .i64 lb, .slice (some ⟨bb, 0, none⟩) 1 1], .bool false]) (by simp [results, Try.results68, go_sem, q5, q6, q7, q8]) rfl (.inl ⟨HR.out, _, _, _, _, _, _, rfl, ⟨_, HG.out.1⟩, HG.out.2⟩)
  have hal : Below w3.heap.size w3 (w3.alloc (Obj.cells #[.int .i64 k, .int .i64 g, .int .i64 l, .slice a m cap] 44)) := (Below.refl _ _).alloc (Nat.le_refl _) _
  have HR := hid (show prcPrj s (prc s d) i = some (.mk 5 0 lb [t], j3) by rw [HR0.out, hr])
  have HC3 := hid (hc3.below hal)
  have HX3 := hid (HX2.out.trans (hx3.trans (Cx.of_below hal)))
  have HAT := hid (hat.below hal)
  have HF := hid (hf.below hal)
  have hlt : ∀ x ∈ fp, x < w3.heap.size := fun x hx => (hf.2 x hx).2.1
  have hsz3 : w2.heap.size ≤ w3.heap.size := hx3.size
  clear hat hf
  clear hr hc3 hx3 hal
  go_wp2_with fail
  refine (projectOf_any lb k g l a m cap _).mono ?_
  rintro e w4 ⟨bb, rfl, hE, hge, hb4⟩
  simp at hge
  have hc4 := HC3.out.below hb4
  have hxx := HX3.out.trans (Cx.of_below hb4)
  have hat4 := co_one (k := 5) (g := 0) (l := lb) hE (HAT.out.below hb4)
  have hf4 := Fresh.row (HF.out.below hb4) hE (by omega) (fun x hx => by have := hlt x hx; omega)
  obtain ⟨r0, r1, r2, r3, rz, hM⟩ := rk_box hxx hb
  obtain ⟨g1, g2, g3, g4, g5⟩ := rk_fin hxx hb hc4 hat4 hf4 hsz2
  have q5 := cell_of_block (o := 0) g3
  have q6 := cell_of_block (o := 1) g3
  have q7 := cell_of_block (o := 2) g3
  have q8 := cell_of_block (o := 3) g3
  simp at q5 q6 q7 q8
  have HG := hid (And.intro g1 (And.intro g2 (And.intro g4 g5)))
  clear g1 g2 g3 g4 g5 hxx hc4 hat4 hf4 hE
  go_wp2_with fail
  exact bodyPost_ret (v := .tuple #[.agg #[.int .i64 5, .int .i64 0, .int .i64 lb, .slice (some ⟨bb, 0, none⟩) 1 1], .bool true]) (by simp [results, Try.results68, go_sem, q5, q6, q7, q8]) rfl (.inr ⟨_, _, _, _, _, _, _, _, _, HR.out, rfl, HG.out.2.2.1, HG.out.2.2.2, HG.out.1, HG.out.2.1⟩)

set_option linter.unusedVariables false in
set_option linter.unusedSimpArgs false in
set_option maxHeartbeats 2000000 in
theorem readFunOrPair_of (d : Nat) (ih : RkC d) : RfC d := by
  intro n b s i w hn0 hn hc
  have HIH := hid ih
  have HN := hid hn
  clear ih
  have hb := hc.lt
  have H := hid (hc.below ((Below.refl _ _).alloc (Nat.le_refl _) (Obj.cells #[.int .i64 0, .int .i64 0, .int .i64 0, .slice none 0 0] 44)))
  clear hn hc
  go_enter Try.func67, Try.ntmps67
  go_wp2_with fail
  refine (HIH.out n b s i _ hn0 HN.out H.out).mono ?_
  rintro e w1 (⟨hr, k, g, l, a, m, cap, rfl, ⟨j, hc1⟩, hx1⟩ | ⟨t, j, k, g, l, a, m, cap, fp, hr, rfl, hat, hf, hc1, hx1⟩)
  · have hal : Below w1.heap.size w1 (w1.alloc (Obj.cells #[.int .i64 k, .int .i64 g, .int .i64 l, .slice a m cap] 44)) := (Below.refl _ _).alloc (Nat.le_refl _) _
    have HR := hid (show prcTwo s (prc s d) i = none by rw [prcTwo, hr])
    have hxx := hx1.trans (Cx.of_below hal)
    have hc2 := hc1.below hal
    obtain ⟨r0, r1, r2, r3, rz, hM⟩ := rk_box hxx hb
    obtain ⟨g1, g2, g3⟩ := rk_put hxx hb hc2 (.int .i64 0) (.int .i64 0) (.int .i64 0) (.slice none 0 0)
    have q5 := cell_of_block (o := 0) g3
    have q6 := cell_of_block (o := 1) g3
    have q7 := cell_of_block (o := 2) g3
    have q8 := cell_of_block (o := 3) g3
    simp at q5 q6 q7 q8
    have HG := hid (And.intro g1 g2)
    clear g1 g2 g3
    clear hxx hc2 hx1 hc1 hr hal
    go_wp2_with fail
    exact bodyPost_ret (v := .tuple #[.agg #[.int .i64 0, .int .i64 0, .int .i64 0, .slice none 0 0], .bool false]) (by simp [results, Try.results67, go_sem, q5, q6, q7, q8]) rfl (.inl ⟨HR.out, _, _, _, _, _, _, rfl, ⟨_, HG.out.1⟩, HG.out.2⟩)
  have hal : Below w1.heap.size w1 (w1.alloc (Obj.cells #[.int .i64 k, .int .i64 g, .int .i64 l, .slice a m cap] 44)) := (Below.refl _ _).alloc (Nat.le_refl _) _
  have HC1 := hid (hc1.below hal)
  have HX1 := hid (hx1.trans (Cx.of_below hal))
  have HAT1 := hid (hat.below hal)
  have HF1 := hid (hf.below hal)
  have HLT1 := hid (show ∀ x ∈ fp, x < w1.heap.size from fun x hx => (hf.2 x hx).2.1)
  have hsz1 : w.heap.size < w1.heap.size := by have := hx1.size; simp at this; omega
  have HBX := hid (alloc_new w1 (Obj.cells #[.int .i64 k, .int .i64 g, .int .i64 l, .slice a m cap] 44))
  clear hc1 hx1 hat hf hal
  by_cases hs : byt s j = 62 ∨ byt s j = 42
  case neg =>
    have HR := hid (show prcTwo s (prc s d) i = none by simp only [prcTwo, hr, if_neg hs])
    have q9 : ((byt s j : Int) == 62) = false := by simp; omega
    have q10 : ((byt s j : Int) == 42) = false := by simp; omega
    clear hr hs
    go_wp2_with fail
    refine (next_any b s j _ HC1.out).mono ?_
    rintro e w2 ⟨rfl, hc2, hx2⟩
    have hxx := HX1.out.trans hx2
    obtain ⟨r0, r1, r2, r3, rz, hM⟩ := rk_box hxx hb
    obtain ⟨g1, g2, g3⟩ := rk_put hxx hb hc2 (.int .i64 0) (.int .i64 0) (.int .i64 0) (.slice none 0 0)
    have q5 := cell_of_block (o := 0) g3
    have q6 := cell_of_block (o := 1) g3
    have q7 := cell_of_block (o := 2) g3
    have q8 := cell_of_block (o := 3) g3
    simp at q5 q6 q7 q8
    have HG := hid (And.intro g1 g2)
    clear g1 g2 g3
    clear hxx hc2 hx2
    go_wp2_with fail
    exact bodyPost_ret (v := .tuple #[.agg #[.int .i64 0, .int .i64 0, .int .i64 0, .slice none 0 0], .bool false]) (by simp [results, Try.results67, go_sem, q5, q6, q7, q8]) rfl (.inl ⟨HR.out, _, _, _, _, _, _, rfl, ⟨_, HG.out.1⟩, HG.out.2⟩)
  have HX := hid (nxt_in (s := s) (i := j) (by omega))
  have HR0 := hid (show prcTwo s (prc s d) i = (match prc s d (j + 1) with | none => none | some (b, m) => if byt s m = 41 then some (.mk (if byt s j = 62 then 2 else 3) 0 0 [t, b], m + 1) else none) by simp only [prcTwo, hr, if_pos hs] <;> rfl)
  clear hr
  rcases hs with hs | hs
  · have HS := hid hs
    have HR1 := hid (show prcTwo s (prc s d) i = (match prc s d (j + 1) with | none => none | some (b, m) => if byt s m = 41 then some (.mk 2 0 0 [t, b], m + 1) else none) by rw [HR0.out, hs] <;> rfl)
    clear hs HR0
    go_wp2_with fail
    refine (next_any b s j _ HC1.out).mono ?_
    rw [HS.out, HX.out]
    rintro e w2 ⟨rfl, hc2, hx2⟩
    have HC2 := hid hc2
    have HX2 := hid hx2
    have hsz2 : w1.heap.size + 1 ≤ w2.heap.size := by have := hx2.size; simp at this; omega
    clear hc2 hx2
    go_wp2_with fail
    refine (HIH.out n b s (j + 1) _ hn0 HN.out HC2.out).mono ?_
    rintro e w3 (⟨hr, k2, g2, l2, a2, m2, cap2, rfl, ⟨j3, hc3⟩, hx3⟩ | ⟨u, j3, k2, g2, l2, a2, m2, cap2, fp2, hr, rfl, hat2, hf2, hc3, hx3⟩)
    · have hal : Below w3.heap.size w3 (w3.alloc (Obj.cells #[.int .i64 k2, .int .i64 g2, .int .i64 l2, .slice a2 m2 cap2] 44)) := (Below.refl _ _).alloc (Nat.le_refl _) _
      have hal2 : Below w3.heap.size w3 ((w3.alloc (Obj.cells #[.int .i64 k2, .int .i64 g2, .int .i64 l2, .slice a2 m2 cap2] 44)).alloc (Obj.cells #[.int .i64 k, .int .i64 g, .int .i64 l, .slice a m cap, .int .i64 k2, .int .i64 g2, .int .i64 l2, .slice a2 m2 cap2] 44)) := hal.alloc (by simp) _
      have hx13 := HX2.out.trans (hx3.trans (Cx.of_below hal))
      have hbx := hx13.blk HBX.out (by omega)
      have y0 : (w3.alloc (Obj.cells #[.int .i64 k2, .int .i64 g2, .int .i64 l2, .slice a2 m2 cap2] 44)).cell? ⟨w1.heap.size, 0, none⟩ = some (.int .i64 k) := by rw [cell_of_block hbx]; rfl
      have y1 : (w3.alloc (Obj.cells #[.int .i64 k2, .int .i64 g2, .int .i64 l2, .slice a2 m2 cap2] 44)).cell? ⟨w1.heap.size, 1, none⟩ = some (.int .i64 g) := by rw [cell_of_block hbx]; rfl
      have y2 : (w3.alloc (Obj.cells #[.int .i64 k2, .int .i64 g2, .int .i64 l2, .slice a2 m2 cap2] 44)).cell? ⟨w1.heap.size, 2, none⟩ = some (.int .i64 l) := by rw [cell_of_block hbx]; rfl
      have y3 : (w3.alloc (Obj.cells #[.int .i64 k2, .int .i64 g2, .int .i64 l2, .slice a2 m2 cap2] 44)).cell? ⟨w1.heap.size, 3, none⟩ = some (.slice a m cap) := by rw [cell_of_block hbx]; rfl
      have HX13 := hid (HX2.out.trans (hx3.trans (Cx.of_below hal2)))
      have HC3 := hid (hc3.below hal2)
      have hrow : ((w3.alloc (Obj.cells #[.int .i64 k2, .int .i64 g2, .int .i64 l2, .slice a2 m2 cap2] 44)).alloc (Obj.cells #[.int .i64 k, .int .i64 g, .int .i64 l, .slice a m cap, .int .i64 k2, .int .i64 g2, .int .i64 l2, .slice a2 m2 cap2] 44)).heap[w3.heap.size + 1]? = some (Obj.cells #[.int .i64 k, .int .i64 g, .int .i64 l, .slice a m cap, .int .i64 k2, .int .i64 g2, .int .i64 l2, .slice a2 m2 cap2] 44) := by
        have := alloc_new (w3.alloc (Obj.cells #[.int .i64 k2, .int .i64 g2, .int .i64 l2, .slice a2 m2 cap2] 44)) (Obj.cells #[.int .i64 k, .int .i64 g, .int .i64 l, .slice a m cap, .int .i64 k2, .int .i64 g2, .int .i64 l2, .slice a2 m2 cap2] 44)
        simpa using this
      have HROW := hid hrow
      have hsz3 : w2.heap.size ≤ w3.heap.size := hx3.size
      have HR := hid (show prcTwo s (prc s d) i = none by rw [HR1.out, hr])
      clear hr hc3 hx3 hal hal2 hrow hx13 hbx
      go_wp2_with fail
      refine (coercionOf_any 2 _ _ _ _).mono ?_
      rintro e w4 ⟨rfl, hb4⟩
      have hc4 := HC3.out.below hb4
      have hxx := HX1.out.trans (HX13.out.trans (Cx.of_below hb4))
      obtain ⟨r0, r1, r2, r3, rz, hM⟩ := rk_box hxx hb
      obtain ⟨g1, g2, g3⟩ := rk_put hxx hb hc4 (.int .i64 2) (.int .i64 0) (.int .i64 0) (.slice (some ⟨w3.heap.size + 1, 0, none⟩) 2 2)
      have q5 := cell_of_block (o := 0) g3
      have q6 := cell_of_block (o := 1) g3
      have q7 := cell_of_block (o := 2) g3
      have q8 := cell_of_block (o := 3) g3
      simp at q5 q6 q7 q8
      have HG := hid (And.intro g1 g2)
      clear g1 g2 g3
      clear hxx hc4
      go_wp2_with fail
      exact bodyPost_ret (v := .tuple #[.agg #[.int .i64 2, .int .i64 0, .int .i64 0, .slice (some ⟨w3.heap.size + 1, 0, none⟩) 2 2], .bool false]) (by simp [results, Try.results67, go_sem, q5, q6, q7, q8]) rfl (.inl ⟨HR.out, _, _, _, _, _, _, rfl, ⟨_, HG.out.1⟩, HG.out.2⟩)
    have hal : Below w3.heap.size w3 (w3.alloc (Obj.cells #[.int .i64 k2, .int .i64 g2, .int .i64 l2, .slice a2 m2 cap2] 44)) := (Below.refl _ _).alloc (Nat.le_refl _) _
    have hal2 : Below w3.heap.size w3 ((w3.alloc (Obj.cells #[.int .i64 k2, .int .i64 g2, .int .i64 l2, .slice a2 m2 cap2] 44)).alloc (Obj.cells #[.int .i64 k, .int .i64 g, .int .i64 l, .slice a m cap, .int .i64 k2, .int .i64 g2, .int .i64 l2, .slice a2 m2 cap2] 44)) := hal.alloc (by simp) _
    have hx13 := HX2.out.trans (hx3.trans (Cx.of_below hal))
    have hbx := hx13.blk HBX.out (by omega)
    have y0 : (w3.alloc (Obj.cells #[.int .i64 k2, .int .i64 g2, .int .i64 l2, .slice a2 m2 cap2] 44)).cell? ⟨w1.heap.size, 0, none⟩ = some (.int .i64 k) := by rw [cell_of_block hbx]; rfl
    have y1 : (w3.alloc (Obj.cells #[.int .i64 k2, .int .i64 g2, .int .i64 l2, .slice a2 m2 cap2] 44)).cell? ⟨w1.heap.size, 1, none⟩ = some (.int .i64 g) := by rw [cell_of_block hbx]; rfl
    have y2 : (w3.alloc (Obj.cells #[.int .i64 k2, .int .i64 g2, .int .i64 l2, .slice a2 m2 cap2] 44)).cell? ⟨w1.heap.size, 2, none⟩ = some (.int .i64 l) := by rw [cell_of_block hbx]; rfl
    have y3 : (w3.alloc (Obj.cells #[.int .i64 k2, .int .i64 g2, .int .i64 l2, .slice a2 m2 cap2] 44)).cell? ⟨w1.heap.size, 3, none⟩ = some (.slice a m cap) := by rw [cell_of_block hbx]; rfl
    have HX13 := hid (HX2.out.trans (hx3.trans (Cx.of_below hal2)))
    have HC3 := hid (hc3.below hal2)
    have hrow : ((w3.alloc (Obj.cells #[.int .i64 k2, .int .i64 g2, .int .i64 l2, .slice a2 m2 cap2] 44)).alloc (Obj.cells #[.int .i64 k, .int .i64 g, .int .i64 l, .slice a m cap, .int .i64 k2, .int .i64 g2, .int .i64 l2, .slice a2 m2 cap2] 44)).heap[w3.heap.size + 1]? = some (Obj.cells #[.int .i64 k, .int .i64 g, .int .i64 l, .slice a m cap, .int .i64 k2, .int .i64 g2, .int .i64 l2, .slice a2 m2 cap2] 44) := by
      have := alloc_new (w3.alloc (Obj.cells #[.int .i64 k2, .int .i64 g2, .int .i64 l2, .slice a2 m2 cap2] 44)) (Obj.cells #[.int .i64 k, .int .i64 g, .int .i64 l, .slice a m cap, .int .i64 k2, .int .i64 g2, .int .i64 l2, .slice a2 m2 cap2] 44)
      simpa using this
    have HROW := hid hrow
    have hsz3 : w2.heap.size ≤ w3.heap.size := hx3.size
    have HAT2 := hid (hat2.below hal2)
    have HF2 := hid (hf2.below hal2)
    have HLT2 := hid (show ∀ x ∈ fp2, x < w3.heap.size from fun x hx => (hf2.2 x hx).2.1)
    have HR2 := hid (show prcTwo s (prc s d) i = if byt s j3 = 41 then some (.mk 2 0 0 [t, u], j3 + 1) else none by rw [HR1.out, hr])
    have HB2 := hid (byt_lt s j3)
    clear hr hc3 hx3 hal hal2 hrow hx13 hbx hat2 hf2
    go_wp2_with fail
    refine (coercionOf_any 2 _ _ _ _).mono ?_
    rintro e w4 ⟨rfl, hb4⟩
    have HC4 := hid (HC3.out.below hb4)
    have HB4 := hid hb4
    clear hb4 y0 y1 y2 y3
    by_cases h41 : byt s j3 = 41
    case neg =>
      have HR := hid (show prcTwo s (prc s d) i = none by rw [HR2.out, if_neg h41])
      have q9 : ((byt s j3 : Int) == 41) = false := by simp; omega
      clear h41
      go_wp2_with fail
      refine (next_any b s j3 _ HC4.out).mono ?_
      rintro e w5 ⟨rfl, hc5, hx5⟩
      have hxx := HX1.out.trans (HX13.out.trans ((Cx.of_below HB4.out).trans hx5))
      obtain ⟨r0, r1, r2, r3, rz, hM⟩ := rk_box hxx hb
      obtain ⟨g1, g2, g3⟩ := rk_put hxx hb hc5 (.int .i64 2) (.int .i64 0) (.int .i64 0) (.slice (some ⟨w3.heap.size + 1, 0, none⟩) 2 2)
      have q5 := cell_of_block (o := 0) g3
      have q6 := cell_of_block (o := 1) g3
      have q7 := cell_of_block (o := 2) g3
      have q8 := cell_of_block (o := 3) g3
      simp at q5 q6 q7 q8
      have HG := hid (And.intro g1 g2)
      clear g1 g2 g3
      clear hxx hc5 hx5
      go_wp2_with fail
      exact bodyPost_ret (v := .tuple #[.agg #[.int .i64 2, .int .i64 0, .int .i64 0, .slice (some ⟨w3.heap.size + 1, 0, none⟩) 2 2], .bool false]) (by simp [results, Try.results67, go_sem, q5, q6, q7, q8]) rfl (.inl ⟨HR.out, _, _, _, _, _, _, rfl, ⟨_, HG.out.1⟩, HG.out.2⟩)
    have HR := hid (show prcTwo s (prc s d) i = some (.mk 2 0 0 [t, u], j3 + 1) by rw [HR2.out, if_pos h41])
    have HNX := hid (nxt_in (s := s) (i := j3) (by omega))
    have HQ := hid h41
    clear h41
    go_wp2_with fail
    refine (next_any b s j3 _ HC4.out).mono ?_
    rw [HQ.out, HNX.out]
    rintro e w5 ⟨rfl, hc5, hx5⟩
    have hx35 := (Cx.of_below HB4.out).trans hx5
    have hx15 := HX13.out.trans hx35
    have hxx := HX1.out.trans hx15
    have hn1 : ∀ x ∈ fp, x ≠ b := fun x hx e => by have := (HF1.out.2 x hx).1; simp at this; omega
    have hn2 : ∀ x ∈ fp2, x ≠ b := fun x hx e => by have := (HF2.out.2 x hx).1; omega
    have ht5 := hx15.coK HAT1.out hn1
    have hu5 := hx35.coK HAT2.out hn2
    have hE := hx35.blk HROW.out (by omega)
    have hf15 : Fresh (w.heap.size + 1) w5 fp := (hx15.fresh HF1.out (by simp; omega)).mono (by simp)
    have hf25 := hx35.fresh HF2.out (by omega)
    have hat5 := co_two (k := 2) (g := 0) (l := 0) hE ht5 hu5
    have hf5 := Fresh.row (Fresh.join hf15 hf25 (fun x hx => by have := HLT1.out x hx; omega) (by omega)) hE (by omega) (fun x hx => by
      rcases List.mem_append.1 hx with hx | hx
      · have := HLT1.out x hx; omega
      · have := HLT2.out x hx; omega)
    obtain ⟨r0, r1, r2, r3, rz, hM⟩ := rk_box hxx hb
    obtain ⟨g1, g2, g3, g4, g5⟩ := rk_fin hxx hb hc5 hat5 hf5 (by omega)
    have q5 := cell_of_block (o := 0) g3
    have q6 := cell_of_block (o := 1) g3
    have q7 := cell_of_block (o := 2) g3
    have q8 := cell_of_block (o := 3) g3
    simp at q5 q6 q7 q8
    have HG := hid (And.intro g1 (And.intro g2 (And.intro g4 g5)))
    clear g1 g2 g3 g4 g5 hxx hc5 hx5 hx35 hx15 hat5 hf5 hE ht5 hu5 hf15 hf25
    go_wp2_with fail
    exact bodyPost_ret (v := .tuple #[.agg #[.int .i64 2, .int .i64 0, .int .i64 0, .slice (some ⟨w3.heap.size + 1, 0, none⟩) 2 2], .bool true]) (by simp [results, Try.results67, go_sem, q5, q6, q7, q8]) rfl (.inr ⟨_, _, _, _, _, _, _, _, _, HR.out, rfl, HG.out.2.2.1, HG.out.2.2.2, HG.out.1, HG.out.2.1⟩)
  have HS := hid hs
  have HR1 := hid (show prcTwo s (prc s d) i = (match prc s d (j + 1) with | none => none | some (b, m) => if byt s m = 41 then some (.mk 3 0 0 [t, b], m + 1) else none) by rw [HR0.out, hs] <;> rfl)
  clear hs HR0
  go_wp2_with fail
  refine (next_any b s j _ HC1.out).mono ?_
  rw [HS.out, HX.out]
  rintro e w2 ⟨rfl, hc2, hx2⟩
  have HC2 := hid hc2
  have HX2 := hid hx2
  have hsz2 : w1.heap.size + 1 ≤ w2.heap.size := by have := hx2.size; simp at this; omega
  clear hc2 hx2
  go_wp2_with fail
  refine (HIH.out n b s (j + 1) _ hn0 HN.out HC2.out).mono ?_
  rintro e w3 (⟨hr, k2, g2, l2, a2, m2, cap2, rfl, ⟨j3, hc3⟩, hx3⟩ | ⟨u, j3, k2, g2, l2, a2, m2, cap2, fp2, hr, rfl, hat2, hf2, hc3, hx3⟩)
  · have hal : Below w3.heap.size w3 (w3.alloc (Obj.cells #[.int .i64 k2, .int .i64 g2, .int .i64 l2, .slice a2 m2 cap2] 44)) := (Below.refl _ _).alloc (Nat.le_refl _) _
    have hal2 : Below w3.heap.size w3 ((w3.alloc (Obj.cells #[.int .i64 k2, .int .i64 g2, .int .i64 l2, .slice a2 m2 cap2] 44)).alloc (Obj.cells #[.int .i64 k, .int .i64 g, .int .i64 l, .slice a m cap, .int .i64 k2, .int .i64 g2, .int .i64 l2, .slice a2 m2 cap2] 44)) := hal.alloc (by simp) _
    have hx13 := HX2.out.trans (hx3.trans (Cx.of_below hal))
    have hbx := hx13.blk HBX.out (by omega)
    have y0 : (w3.alloc (Obj.cells #[.int .i64 k2, .int .i64 g2, .int .i64 l2, .slice a2 m2 cap2] 44)).cell? ⟨w1.heap.size, 0, none⟩ = some (.int .i64 k) := by rw [cell_of_block hbx]; rfl
    have y1 : (w3.alloc (Obj.cells #[.int .i64 k2, .int .i64 g2, .int .i64 l2, .slice a2 m2 cap2] 44)).cell? ⟨w1.heap.size, 1, none⟩ = some (.int .i64 g) := by rw [cell_of_block hbx]; rfl
    have y2 : (w3.alloc (Obj.cells #[.int .i64 k2, .int .i64 g2, .int .i64 l2, .slice a2 m2 cap2] 44)).cell? ⟨w1.heap.size, 2, none⟩ = some (.int .i64 l) := by rw [cell_of_block hbx]; rfl
    have y3 : (w3.alloc (Obj.cells #[.int .i64 k2, .int .i64 g2, .int .i64 l2, .slice a2 m2 cap2] 44)).cell? ⟨w1.heap.size, 3, none⟩ = some (.slice a m cap) := by rw [cell_of_block hbx]; rfl
    have HX13 := hid (HX2.out.trans (hx3.trans (Cx.of_below hal2)))
    have HC3 := hid (hc3.below hal2)
    have hrow : ((w3.alloc (Obj.cells #[.int .i64 k2, .int .i64 g2, .int .i64 l2, .slice a2 m2 cap2] 44)).alloc (Obj.cells #[.int .i64 k, .int .i64 g, .int .i64 l, .slice a m cap, .int .i64 k2, .int .i64 g2, .int .i64 l2, .slice a2 m2 cap2] 44)).heap[w3.heap.size + 1]? = some (Obj.cells #[.int .i64 k, .int .i64 g, .int .i64 l, .slice a m cap, .int .i64 k2, .int .i64 g2, .int .i64 l2, .slice a2 m2 cap2] 44) := by
      have := alloc_new (w3.alloc (Obj.cells #[.int .i64 k2, .int .i64 g2, .int .i64 l2, .slice a2 m2 cap2] 44)) (Obj.cells #[.int .i64 k, .int .i64 g, .int .i64 l, .slice a m cap, .int .i64 k2, .int .i64 g2, .int .i64 l2, .slice a2 m2 cap2] 44)
      simpa using this
    have HROW := hid hrow
    have hsz3 : w2.heap.size ≤ w3.heap.size := hx3.size
    have HR := hid (show prcTwo s (prc s d) i = none by rw [HR1.out, hr])
    clear hr hc3 hx3 hal hal2 hrow hx13 hbx
    go_wp2_with fail
    refine (coercionOf_any 3 _ _ _ _).mono ?_
    rintro e w4 ⟨rfl, hb4⟩
    have hc4 := HC3.out.below hb4
    have hxx := HX1.out.trans (HX13.out.trans (Cx.of_below hb4))
    obtain ⟨r0, r1, r2, r3, rz, hM⟩ := rk_box hxx hb
    obtain ⟨g1, g2, g3⟩ := rk_put hxx hb hc4 (.int .i64 3) (.int .i64 0) (.int .i64 0) (.slice (some ⟨w3.heap.size + 1, 0, none⟩) 2 2)
    have q5 := cell_of_block (o := 0) g3
    have q6 := cell_of_block (o := 1) g3
    have q7 := cell_of_block (o := 2) g3
    have q8 := cell_of_block (o := 3) g3
    simp at q5 q6 q7 q8
    have HG := hid (And.intro g1 g2)
    clear g1 g2 g3
    clear hxx hc4
    go_wp2_with fail
    exact bodyPost_ret (v := .tuple #[.agg #[.int .i64 3, .int .i64 0, .int .i64 0, .slice (some ⟨w3.heap.size + 1, 0, none⟩) 2 2], .bool false]) (by simp [results, Try.results67, go_sem, q5, q6, q7, q8]) rfl (.inl ⟨HR.out, _, _, _, _, _, _, rfl, ⟨_, HG.out.1⟩, HG.out.2⟩)
  have hal : Below w3.heap.size w3 (w3.alloc (Obj.cells #[.int .i64 k2, .int .i64 g2, .int .i64 l2, .slice a2 m2 cap2] 44)) := (Below.refl _ _).alloc (Nat.le_refl _) _
  have hal2 : Below w3.heap.size w3 ((w3.alloc (Obj.cells #[.int .i64 k2, .int .i64 g2, .int .i64 l2, .slice a2 m2 cap2] 44)).alloc (Obj.cells #[.int .i64 k, .int .i64 g, .int .i64 l, .slice a m cap, .int .i64 k2, .int .i64 g2, .int .i64 l2, .slice a2 m2 cap2] 44)) := hal.alloc (by simp) _
  have hx13 := HX2.out.trans (hx3.trans (Cx.of_below hal))
  have hbx := hx13.blk HBX.out (by omega)
  have y0 : (w3.alloc (Obj.cells #[.int .i64 k2, .int .i64 g2, .int .i64 l2, .slice a2 m2 cap2] 44)).cell? ⟨w1.heap.size, 0, none⟩ = some (.int .i64 k) := by rw [cell_of_block hbx]; rfl
  have y1 : (w3.alloc (Obj.cells #[.int .i64 k2, .int .i64 g2, .int .i64 l2, .slice a2 m2 cap2] 44)).cell? ⟨w1.heap.size, 1, none⟩ = some (.int .i64 g) := by rw [cell_of_block hbx]; rfl
  have y2 : (w3.alloc (Obj.cells #[.int .i64 k2, .int .i64 g2, .int .i64 l2, .slice a2 m2 cap2] 44)).cell? ⟨w1.heap.size, 2, none⟩ = some (.int .i64 l) := by rw [cell_of_block hbx]; rfl
  have y3 : (w3.alloc (Obj.cells #[.int .i64 k2, .int .i64 g2, .int .i64 l2, .slice a2 m2 cap2] 44)).cell? ⟨w1.heap.size, 3, none⟩ = some (.slice a m cap) := by rw [cell_of_block hbx]; rfl
  have HX13 := hid (HX2.out.trans (hx3.trans (Cx.of_below hal2)))
  have HC3 := hid (hc3.below hal2)
  have hrow : ((w3.alloc (Obj.cells #[.int .i64 k2, .int .i64 g2, .int .i64 l2, .slice a2 m2 cap2] 44)).alloc (Obj.cells #[.int .i64 k, .int .i64 g, .int .i64 l, .slice a m cap, .int .i64 k2, .int .i64 g2, .int .i64 l2, .slice a2 m2 cap2] 44)).heap[w3.heap.size + 1]? = some (Obj.cells #[.int .i64 k, .int .i64 g, .int .i64 l, .slice a m cap, .int .i64 k2, .int .i64 g2, .int .i64 l2, .slice a2 m2 cap2] 44) := by
    have := alloc_new (w3.alloc (Obj.cells #[.int .i64 k2, .int .i64 g2, .int .i64 l2, .slice a2 m2 cap2] 44)) (Obj.cells #[.int .i64 k, .int .i64 g, .int .i64 l, .slice a m cap, .int .i64 k2, .int .i64 g2, .int .i64 l2, .slice a2 m2 cap2] 44)
    simpa using this
  have HROW := hid hrow
  have hsz3 : w2.heap.size ≤ w3.heap.size := hx3.size
  have HAT2 := hid (hat2.below hal2)
  have HF2 := hid (hf2.below hal2)
  have HLT2 := hid (show ∀ x ∈ fp2, x < w3.heap.size from fun x hx => (hf2.2 x hx).2.1)
  have HR2 := hid (show prcTwo s (prc s d) i = if byt s j3 = 41 then some (.mk 3 0 0 [t, u], j3 + 1) else none by rw [HR1.out, hr])
  have HB2 := hid (byt_lt s j3)
  clear hr hc3 hx3 hal hal2 hrow hx13 hbx hat2 hf2
  go_wp2_with fail
  refine (coercionOf_any 3 _ _ _ _).mono ?_
  rintro e w4 ⟨rfl, hb4⟩
  have HC4 := hid (HC3.out.below hb4)
  have HB4 := hid hb4
  clear hb4 y0 y1 y2 y3
  by_cases h41 : byt s j3 = 41
  case neg =>
    have HR := hid (show prcTwo s (prc s d) i = none by rw [HR2.out, if_neg h41])
    have q9 : ((byt s j3 : Int) == 41) = false := by simp; omega
    clear h41
    go_wp2_with fail
    refine (next_any b s j3 _ HC4.out).mono ?_
    rintro e w5 ⟨rfl, hc5, hx5⟩
    have hxx := HX1.out.trans (HX13.out.trans ((Cx.of_below HB4.out).trans hx5))
    obtain ⟨r0, r1, r2, r3, rz, hM⟩ := rk_box hxx hb
    obtain ⟨g1, g2, g3⟩ := rk_put hxx hb hc5 (.int .i64 3) (.int .i64 0) (.int .i64 0) (.slice (some ⟨w3.heap.size + 1, 0, none⟩) 2 2)
    have q5 := cell_of_block (o := 0) g3
    have q6 := cell_of_block (o := 1) g3
    have q7 := cell_of_block (o := 2) g3
    have q8 := cell_of_block (o := 3) g3
    simp at q5 q6 q7 q8
    have HG := hid (And.intro g1 g2)
    clear g1 g2 g3
    clear hxx hc5 hx5
    go_wp2_with fail
    exact bodyPost_ret (v := .tuple #[.agg #[.int .i64 3, .int .i64 0, .int .i64 0, .slice (some ⟨w3.heap.size + 1, 0, none⟩) 2 2], .bool false]) (by simp [results, Try.results67, go_sem, q5, q6, q7, q8]) rfl (.inl ⟨HR.out, _, _, _, _, _, _, rfl, ⟨_, HG.out.1⟩, HG.out.2⟩)
  have HR := hid (show prcTwo s (prc s d) i = some (.mk 3 0 0 [t, u], j3 + 1) by rw [HR2.out, if_pos h41])
  have HNX := hid (nxt_in (s := s) (i := j3) (by omega))
  have HQ := hid h41
  clear h41
  go_wp2_with fail
  refine (next_any b s j3 _ HC4.out).mono ?_
  rw [HQ.out, HNX.out]
  rintro e w5 ⟨rfl, hc5, hx5⟩
  have hx35 := (Cx.of_below HB4.out).trans hx5
  have hx15 := HX13.out.trans hx35
  have hxx := HX1.out.trans hx15
  have hn1 : ∀ x ∈ fp, x ≠ b := fun x hx e => by have := (HF1.out.2 x hx).1; simp at this; omega
  have hn2 : ∀ x ∈ fp2, x ≠ b := fun x hx e => by have := (HF2.out.2 x hx).1; omega
  have ht5 := hx15.coK HAT1.out hn1
  have hu5 := hx35.coK HAT2.out hn2
  have hE := hx35.blk HROW.out (by omega)
  have hf15 : Fresh (w.heap.size + 1) w5 fp := (hx15.fresh HF1.out (by simp; omega)).mono (by simp)
  have hf25 := hx35.fresh HF2.out (by omega)
  have hat5 := co_two (k := 3) (g := 0) (l := 0) hE ht5 hu5
  have hf5 := Fresh.row (Fresh.join hf15 hf25 (fun x hx => by have := HLT1.out x hx; omega) (by omega)) hE (by omega) (fun x hx => by
    rcases List.mem_append.1 hx with hx | hx
    · have := HLT1.out x hx; omega
    · have := HLT2.out x hx; omega)
  obtain ⟨r0, r1, r2, r3, rz, hM⟩ := rk_box hxx hb
  obtain ⟨g1, g2, g3, g4, g5⟩ := rk_fin hxx hb hc5 hat5 hf5 (by omega)
  have q5 := cell_of_block (o := 0) g3
  have q6 := cell_of_block (o := 1) g3
  have q7 := cell_of_block (o := 2) g3
  have q8 := cell_of_block (o := 3) g3
  simp at q5 q6 q7 q8
  have HG := hid (And.intro g1 (And.intro g2 (And.intro g4 g5)))
  clear g1 g2 g3 g4 g5 hxx hc5 hx5 hx35 hx15 hat5 hf5 hE ht5 hu5 hf15 hf25
  go_wp2_with fail
  exact bodyPost_ret (v := .tuple #[.agg #[.int .i64 3, .int .i64 0, .int .i64 0, .slice (some ⟨w3.heap.size + 1, 0, none⟩) 2 2], .bool true]) (by simp [results, Try.results67, go_sem, q5, q6, q7, q8]) rfl (.inr ⟨_, _, _, _, _, _, _, _, _, HR.out, rfl, HG.out.2.2.1, HG.out.2.2.2, HG.out.1, HG.out.2.1⟩)

theorem readCoercion_any : ∀ d : Nat, RkC d
  | 0 => readCoercion_zero
  | d + 1 => readCoercion_succ d (readCoercion_any d) (readProject_of d (readCoercion_any d)) (readFunOrPair_of d (readCoercion_any d))
end Go.Proofs.Ytgekfnodmgkdaaa

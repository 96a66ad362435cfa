/- The program's readCoercion: its other arms. -/
import Derived.Test.YtgekfnodmgkdaaaPc4
import Derived.Test.YtgekfnodmgkdaaaCi6
namespace Go.Proofs.Ytgekfnodmgkdaaa
open Go.RowKit

theorem rk_fin {b B : Nat} {s : ByteArray} {j : Nat} {w wr : World} {c : Co} {x0 x1 x2 x3 : Value} {fp : List Nat} (h : Cx b (w.alloc (Obj.cells #[.int .i64 0, .int .i64 0, .int .i64 0, .slice none 0 0] 44)) wr) (hb : b < w.heap.size) (hc : CurAt b s j wr) (hat : c.At wr (.agg #[x0, x1, x2, x3]) fp) (hf : Fresh B wr fp) (hB : w.heap.size < B) :
    CurAt b s j ((((wr.setCell ⟨w.heap.size, 0, none⟩ x0).setCell ⟨w.heap.size, 1, none⟩ x1).setCell ⟨w.heap.size, 2, none⟩ x2).setCell ⟨w.heap.size, 3, none⟩ x3) ∧ Cx b w ((((wr.setCell ⟨w.heap.size, 0, none⟩ x0).setCell ⟨w.heap.size, 1, none⟩ x1).setCell ⟨w.heap.size, 2, none⟩ x2).setCell ⟨w.heap.size, 3, none⟩ x3) ∧ ((((wr.setCell ⟨w.heap.size, 0, none⟩ x0).setCell ⟨w.heap.size, 1, none⟩ x1).setCell ⟨w.heap.size, 2, none⟩ x2).setCell ⟨w.heap.size, 3, none⟩ x3).heap[w.heap.size]? = some (Obj.cells #[x0, x1, x2, x3] 44) ∧ c.At ((((wr.setCell ⟨w.heap.size, 0, none⟩ x0).setCell ⟨w.heap.size, 1, none⟩ x1).setCell ⟨w.heap.size, 2, none⟩ x2).setCell ⟨w.heap.size, 3, none⟩ x3) (.agg #[x0, x1, x2, x3]) fp ∧ Fresh w.heap.size ((((wr.setCell ⟨w.heap.size, 0, none⟩ x0).setCell ⟨w.heap.size, 1, none⟩ x1).setCell ⟨w.heap.size, 2, none⟩ x2).setCell ⟨w.heap.size, 3, none⟩ x3) fp := by
  have hne : ∀ y ∈ fp, y ≠ w.heap.size := fun y hy e => by have := (hf.2 y hy).1; omega
  obtain ⟨g1, g2, g3⟩ := rk_put h hb hc x0 x1 x2 x3
  exact ⟨g1, g2, g3, (((hat.setCell (a := ⟨w.heap.size, 0, none⟩) hne x0).setCell (a := ⟨w.heap.size, 1, none⟩) hne x1).setCell (a := ⟨w.heap.size, 2, none⟩) hne x2).setCell (a := ⟨w.heap.size, 3, none⟩) hne x3,
    ((((hf.setCell (a := ⟨w.heap.size, 0, none⟩) hne x0).setCell (a := ⟨w.heap.size, 1, none⟩) hne x1).setCell (a := ⟨w.heap.size, 2, none⟩) hne x2).setCell (a := ⟨w.heap.size, 3, none⟩) hne x3).mono (by omega)⟩

def RpC (d : Nat) : Prop := ∀ (n : Int) (b : Nat) (s : ByteArray) (i : Nat) (w : World), n ≤ 100 → n.toNat = d → CurAt b s i w →
  Calls Try.prog 68 #[.pointer (some ⟨b, 0, none⟩), .int .i64 n] w (RdK b s (prcPrj s (prc s d) i) w)

def RfC (d : Nat) : Prop := ∀ (n : Int) (b : Nat) (s : ByteArray) (i : Nat) (w : World), n ≤ 100 → n.toNat = d → CurAt b s i w →
  Calls Try.prog 67 #[.pointer (some ⟨b, 0, none⟩), .int .i64 n] w (RdK b s (prcTwo s (prc s d) i) w)

set_option linter.unusedVariables false in
set_option linter.unusedSimpArgs false in
set_option maxHeartbeats 1000000 in
theorem rc_fail (d : Nat) (n : Int) (b : Nat) (s : ByteArray) (i : Nat) (w : World) (hn0 : n ≤ 100) (hn : n.toNat = d + 1) (hc : CurAt b s i w) (hs : byt s i = 88) :
    Calls Try.prog 44 #[.pointer (some ⟨b, 0, none⟩), .int .i64 n] w (RdK b s (prc s (d + 1) i) w) := by
  have hn1 : 1 ≤ n := by omega
  have hn2 : decide (n < 1) = false := by simp; omega
  have hn3 : (n - 1).toNat = d := by omega
  have hw : IntKind.i64.wrap (n - 1) = n - 1 := by rw [IntKind.wrap_i64]; omega
  have hb := hc.lt
  have H := hid (hc.below ((Below.refl _ _).alloc (Nat.le_refl _) (Obj.cells #[.int .i64 0, .int .i64 0, .int .i64 0, .slice none 0 0] 44)))
  have HX := hid (nxt_in (s := s) (i := i) (by omega))
  have HS := hid hs
  have HR0 := hid (show prc s (d + 1) i = (match rdl s (i + 1) with | none => none | some (l, j) => some (.mk 6 (kos (byt s j)) l [], nxt s j)) by rw [prc, if_neg (by omega), if_neg (by omega), if_neg (by omega), if_pos hs] <;> rfl)
  clear hn hc hs
  go_enter Try.func44, Try.ntmps44
  go_wp2_with fail
  refine (next_any b s i _ H.out).mono ?_
  rw [HS.out, HX.out]
  rintro e w1 ⟨rfl, hc1, hx1⟩
  have HC1 := hid hc1
  have HX1 := hid hx1
  have hsz1 : w.heap.size < w1.heap.size := by have := hx1.size; simp at this; omega
  clear hc1 hx1
  go_wp2_with fail
  refine (readLabel_any b s (i + 1) _ HC1.out).mono ?_
  rintro e w2 (⟨hr, L, j, rfl, hc2, hx2⟩ | ⟨l, j, hr, rfl, hc2, hx2⟩)
  · have HR := hid (show prc s (d + 1) i = none by rw [HR0.out, hr])
    have HC2 := hid hc2
    have HX2 := hid (HX1.out.trans hx2)
    have HB := hid (byt_lt s j)
    clear hr hc2 hx2
    go_wp2_with fail
    refine (next_any b s j _ HC2.out).mono ?_
    rintro e w3 ⟨rfl, hc3, hx3⟩
    have hxx := HX2.out.trans hx3
    obtain ⟨r0, r1, r2, r3, rz, hM⟩ := rk_box hxx hb
    obtain ⟨g1, g2, g3⟩ := rk_put hxx hb hc3 (.int .i64 6) (.int .i64 (kos (byt s j))) (.int .i64 L) (.slice none 0 0)
    have q5 := cell_of_block (o := 0) g3
    have q6 := cell_of_block (o := 1) g3
    have q7 := cell_of_block (o := 2) g3
    have q8 := cell_of_block (o := 3) g3
    simp at q5 q6 q7 q8
    have HG := hid (And.intro g1 g2)
    clear g1 g2 g3
    clear hxx hc3 hx3
    go_wp2_with fail
    refine (kindOfSign_any _ HB.out _).mono ?_
    rintro e w4 ⟨rfl, rfl⟩
    go_wp2_with fail
    exact bodyPost_ret (v := .tuple #[.agg #[.int .i64 6, .int .i64 (kos (byt s j)), .int .i64 L, .slice none 0 0], .bool false]) (by simp [results, Try.results44, go_sem, q5, q6, q7, q8]) rfl (.inl ⟨HR.out, _, _, _, _, _, _, rfl, ⟨_, HG.out.1⟩, HG.out.2⟩)
  have HR := hid (show prc s (d + 1) i = some (.mk 6 (kos (byt s j)) l [], nxt s j) by rw [HR0.out, hr])
  have HC2 := hid hc2
  have HX2 := hid (HX1.out.trans hx2)
  have HB := hid (byt_lt s j)
  clear hr hc2 hx2
  go_wp2_with fail
  refine (next_any b s j _ HC2.out).mono ?_
  rintro e w3 ⟨rfl, hc3, hx3⟩
  have hxx := HX2.out.trans hx3
  obtain ⟨r0, r1, r2, r3, rz, hM⟩ := rk_box hxx hb
  obtain ⟨g1, g2, g3⟩ := rk_put hxx hb hc3 (.int .i64 6) (.int .i64 (kos (byt s j))) (.int .i64 l) (.slice none 0 0)
  have q5 := cell_of_block (o := 0) g3
  have q6 := cell_of_block (o := 1) g3
  have q7 := cell_of_block (o := 2) g3
  have q8 := cell_of_block (o := 3) g3
  simp at q5 q6 q7 q8
  have HG := hid (And.intro g1 g2)
  clear g1 g2 g3
  clear hxx hc3 hx3
  go_wp2_with fail
  refine (kindOfSign_any _ HB.out _).mono ?_
  rintro e w4 ⟨rfl, rfl⟩
  go_wp2_with fail
  exact bodyPost_ret (v := .tuple #[.agg #[.int .i64 6, .int .i64 (kos (byt s j)), .int .i64 l, .slice none 0 0], .bool true]) (by simp [results, Try.results44, go_sem, q5, q6, q7, q8]) rfl (.inr ⟨_, _, _, _, _, _, _, _, [], HR.out, rfl, Co.at_mk.2 ⟨.slice none 0 0, rfl, CSl.nilA⟩, Fresh.nil _ _, HG.out.1, HG.out.2⟩)

set_option linter.unusedVariables false in
set_option linter.unusedSimpArgs false in
set_option maxHeartbeats 1000000 in
theorem rc_two (d : Nat) (ih : RfC d) (n : Int) (b : Nat) (s : ByteArray) (i : Nat) (w : World) (hn0 : n ≤ 100) (hn : n.toNat = d + 1) (hc : CurAt b s i w) (hs : byt s i = 40) :
    Calls Try.prog 44 #[.pointer (some ⟨b, 0, none⟩), .int .i64 n] w (RdK b s (prc s (d + 1) i) w) := by
  have HIH := hid ih
  clear ih
  have hn1 : 1 ≤ n := by omega
  have hn2 : decide (n < 1) = false := by simp; omega
  have hn3 : (n - 1).toNat = d := by omega
  have hw : IntKind.i64.wrap (n - 1) = n - 1 := by rw [IntKind.wrap_i64]; omega
  have hb := hc.lt
  have H := hid (hc.below ((Below.refl _ _).alloc (Nat.le_refl _) (Obj.cells #[.int .i64 0, .int .i64 0, .int .i64 0, .slice none 0 0] 44)))
  have HX := hid (nxt_in (s := s) (i := i) (by omega))
  have HS := hid hs
  have HR0 := hid (show prc s (d + 1) i = prcTwo s (prc s d) (i + 1) by rw [prc, if_pos hs] <;> rfl)
  clear hn hc hs
  go_enter Try.func44, Try.ntmps44
  go_wp2_with fail
  refine (next_any b s i _ H.out).mono ?_
  rw [HS.out, HX.out]
  rintro e w1 ⟨rfl, hc1, hx1⟩
  have HC1 := hid hc1
  have HX1 := hid hx1
  have hsz1 : w.heap.size < w1.heap.size := by have := hx1.size; simp at this; omega
  clear hc1 hx1
  go_wp2_with fail
  refine (HIH.out (n - 1) b s (i + 1) _ (by omega) hn3 HC1.out).mono ?_
  rintro e w2 (⟨hr, k, g, l, a, m, cap, rfl, ⟨j, hc2⟩, hx2⟩ | ⟨t, j, k, g, l, a, m, cap, fp, hr, rfl, hat, hf, hc2, hx2⟩)
  · have hxx := HX1.out.trans hx2
    have HR := hid (show prc s (d + 1) i = none by rw [HR0.out, hr])
    obtain ⟨r0, r1, r2, r3, rz, hM⟩ := rk_box hxx hb
    obtain ⟨g1, g2, g3⟩ := rk_put hxx hb hc2 (.int .i64 k) (.int .i64 g) (.int .i64 l) (.slice a m cap)
    have q5 := cell_of_block (o := 0) g3
    have q6 := cell_of_block (o := 1) g3
    have q7 := cell_of_block (o := 2) g3
    have q8 := cell_of_block (o := 3) g3
    simp at q5 q6 q7 q8
    have HG := hid (And.intro g1 g2)
    clear g1 g2 g3
    clear hxx hc2 hx2 hr
    go_wp2_with fail
    exact bodyPost_ret (v := .tuple #[.agg #[.int .i64 k, .int .i64 g, .int .i64 l, .slice a m cap], .bool false]) (by simp [results, Try.results44, go_sem, q5, q6, q7, q8]) rfl (.inl ⟨HR.out, _, _, _, _, _, _, rfl, ⟨_, HG.out.1⟩, HG.out.2⟩)
  have hxx := HX1.out.trans hx2
  have HR := hid (show prc s (d + 1) i = some (t, j) by rw [HR0.out, hr])
  obtain ⟨r0, r1, r2, r3, rz, hM⟩ := rk_box hxx hb
  obtain ⟨g1, g2, g3, g4, g5⟩ := rk_fin hxx hb hc2 hat hf hsz1
  have q5 := cell_of_block (o := 0) g3
  have q6 := cell_of_block (o := 1) g3
  have q7 := cell_of_block (o := 2) g3
  have q8 := cell_of_block (o := 3) g3
  simp at q5 q6 q7 q8
  have HG := hid (And.intro g1 (And.intro g2 (And.intro g4 g5)))
  clear g1 g2 g3 g4 g5 hxx hc2 hx2 hr hat hf
  go_wp2_with fail
  exact bodyPost_ret (v := .tuple #[.agg #[.int .i64 k, .int .i64 g, .int .i64 l, .slice a m cap], .bool true]) (by simp [results, Try.results44, go_sem, q5, q6, q7, q8]) rfl (.inr ⟨_, _, _, _, _, _, _, _, _, HR.out, rfl, HG.out.2.2.1, HG.out.2.2.2, HG.out.1, HG.out.2.1⟩)

set_option linter.unusedVariables false in
set_option linter.unusedSimpArgs false in
set_option maxHeartbeats 1000000 in
theorem rc_prj (d : Nat) (ih : RpC d) (n : Int) (b : Nat) (s : ByteArray) (i : Nat) (w : World) (hn0 : n ≤ 100) (hn : n.toNat = d + 1) (hc : CurAt b s i w) (hs : byt s i = 35) :
    Calls Try.prog 44 #[.pointer (some ⟨b, 0, none⟩), .int .i64 n] w (RdK b s (prc s (d + 1) i) w) := by
  have HIH := hid ih
  clear ih
  have hn1 : 1 ≤ n := by omega
  have hn2 : decide (n < 1) = false := by simp; omega
  have hn3 : (n - 1).toNat = d := by omega
  have hw : IntKind.i64.wrap (n - 1) = n - 1 := by rw [IntKind.wrap_i64]; omega
  have hb := hc.lt
  have H := hid (hc.below ((Below.refl _ _).alloc (Nat.le_refl _) (Obj.cells #[.int .i64 0, .int .i64 0, .int .i64 0, .slice none 0 0] 44)))
  have HX := hid (nxt_in (s := s) (i := i) (by omega))
  have HS := hid hs
  have HR0 := hid (show prc s (d + 1) i = prcPrj s (prc s d) (i + 1) by rw [prc, if_neg (by omega), if_neg (by omega), if_pos hs] <;> rfl)
  clear hn hc hs
  go_enter Try.func44, Try.ntmps44
  go_wp2_with fail
  refine (next_any b s i _ H.out).mono ?_
  rw [HS.out, HX.out]
  rintro e w1 ⟨rfl, hc1, hx1⟩
  have HC1 := hid hc1
  have HX1 := hid hx1
  have hsz1 : w.heap.size < w1.heap.size := by have := hx1.size; simp at this; omega
  clear hc1 hx1
  go_wp2_with fail
  refine (HIH.out (n - 1) b s (i + 1) _ (by omega) hn3 HC1.out).mono ?_
  rintro e w2 (⟨hr, k, g, l, a, m, cap, rfl, ⟨j, hc2⟩, hx2⟩ | ⟨t, j, k, g, l, a, m, cap, fp, hr, rfl, hat, hf, hc2, hx2⟩)
  · have hxx := HX1.out.trans hx2
    have HR := hid (show prc s (d + 1) i = none by rw [HR0.out, hr])
    obtain ⟨r0, r1, r2, r3, rz, hM⟩ := rk_box hxx hb
    obtain ⟨g1, g2, g3⟩ := rk_put hxx hb hc2 (.int .i64 k) (.int .i64 g) (.int .i64 l) (.slice a m cap)
    have q5 := cell_of_block (o := 0) g3
    have q6 := cell_of_block (o := 1) g3
    have q7 := cell_of_block (o := 2) g3
    have q8 := cell_of_block (o := 3) g3
    simp at q5 q6 q7 q8
    have HG := hid (And.intro g1 g2)
    clear g1 g2 g3
    clear hxx hc2 hx2 hr
    go_wp2_with fail
    exact bodyPost_ret (v := .tuple #[.agg #[.int .i64 k, .int .i64 g, .int .i64 l, .slice a m cap], .bool false]) (by simp [results, Try.results44, go_sem, q5, q6, q7, q8]) rfl (.inl ⟨HR.out, _, _, _, _, _, _, rfl, ⟨_, HG.out.1⟩, HG.out.2⟩)
  have hxx := HX1.out.trans hx2
  have HR := hid (show prc s (d + 1) i = some (t, j) by rw [HR0.out, hr])
  obtain ⟨r0, r1, r2, r3, rz, hM⟩ := rk_box hxx hb
  obtain ⟨g1, g2, g3, g4, g5⟩ := rk_fin hxx hb hc2 hat hf hsz1
  have q5 := cell_of_block (o := 0) g3
  have q6 := cell_of_block (o := 1) g3
  have q7 := cell_of_block (o := 2) g3
  have q8 := cell_of_block (o := 3) g3
  simp at q5 q6 q7 q8
  have HG := hid (And.intro g1 (And.intro g2 (And.intro g4 g5)))
  clear g1 g2 g3 g4 g5 hxx hc2 hx2 hr hat hf
  go_wp2_with fail
  exact bodyPost_ret (v := .tuple #[.agg #[.int .i64 k, .int .i64 g, .int .i64 l, .slice a m cap], .bool true]) (by simp [results, Try.results44, go_sem, q5, q6, q7, q8]) rfl (.inr ⟨_, _, _, _, _, _, _, _, _, HR.out, rfl, HG.out.2.2.1, HG.out.2.2.2, HG.out.1, HG.out.2.1⟩)

set_option linter.unusedVariables false in
set_option linter.unusedSimpArgs false in
set_option maxHeartbeats 1000000 in
theorem rc_inj (d : Nat) (ih : RkC d) (n : Int) (b : Nat) (s : ByteArray) (i : Nat) (w : World) (hn0 : n ≤ 100) (hn : n.toNat = d + 1) (hc : CurAt b s i w) (hs : byt s i = 33) :
    Calls Try.prog 44 #[.pointer (some ⟨b, 0, none⟩), .int .i64 n] w (RdK b s (prc s (d + 1) i) w) := by
  have HIH := hid ih
  clear ih
  have hn1 : 1 ≤ n := by omega
  have hn2 : decide (n < 1) = false := by simp; omega
  have hn3 : (n - 1).toNat = d := by omega
  have hw : IntKind.i64.wrap (n - 1) = n - 1 := by rw [IntKind.wrap_i64]; omega
  have hb := hc.lt
  have H := hid (hc.below ((Below.refl _ _).alloc (Nat.le_refl _) (Obj.cells #[.int .i64 0, .int .i64 0, .int .i64 0, .slice none 0 0] 44)))
  have HX := hid (nxt_in (s := s) (i := i) (by omega))
  have HS := hid hs
  have HR0 := hid (show prc s (d + 1) i = (match prc s d (i + 1) with | none => none | some (a, j) => some (.mk 4 0 0 [a], j)) by rw [prc, if_neg (by omega), if_pos hs] <;> rfl)
  clear hn hc hs
  go_enter Try.func44, Try.ntmps44
  go_wp2_with fail
  refine (next_any b s i _ H.out).mono ?_
  rw [HS.out, HX.out]
  rintro e w1 ⟨rfl, hc1, hx1⟩
  have HC1 := hid hc1
  have HX1 := hid hx1
  have hsz1 : w.heap.size < w1.heap.size := by have := hx1.size; simp at this; omega
  clear hc1 hx1
  go_wp2_with fail
  refine (HIH.out (n - 1) b s (i + 1) _ (by omega) hn3 HC1.out).mono ?_
  rintro e w2 (⟨hr, k, g, l, a, m, cap, rfl, ⟨j, hc2⟩, hx2⟩ | ⟨t, j, k, g, l, a, m, cap, fp, hr, rfl, hat, hf, hc2, hx2⟩)
  · have hal : Below w2.heap.size w2 ((w2.alloc (Obj.cells #[.int .i64 k, .int .i64 g, .int .i64 l, .slice a m cap] 44)).alloc (Obj.cells #[.int .i64 k, .int .i64 g, .int .i64 l, .slice a m cap] 44)) := ((Below.refl _ _).alloc (Nat.le_refl _) _).alloc (by simp) _
    have HR := hid (show prc s (d + 1) i = none by rw [HR0.out, hr])
    have HC3 := hid (hc2.below hal)
    have HX3 := hid (HX1.out.trans (hx2.trans (Cx.of_below hal)))
    have hrow : ((w2.alloc (Obj.cells #[.int .i64 k, .int .i64 g, .int .i64 l, .slice a m cap] 44)).alloc (Obj.cells #[.int .i64 k, .int .i64 g, .int .i64 l, .slice a m cap] 44)).heap[w2.heap.size + 1]? = some (Obj.cells #[.int .i64 k, .int .i64 g, .int .i64 l, .slice a m cap] 44) := by
      have := alloc_new (w2.alloc (Obj.cells #[.int .i64 k, .int .i64 g, .int .i64 l, .slice a m cap] 44)) (Obj.cells #[.int .i64 k, .int .i64 g, .int .i64 l, .slice a m cap] 44)
      simpa using this
    have HROW := hid hrow
    clear hr hc2 hx2 hal hrow
    go_wp2_with fail
    refine (coercionOf_any 4 _ _ _ _).mono ?_
    rintro e w4 ⟨rfl, hb4⟩
    have hc4 := HC3.out.below hb4
    have hxx := HX3.out.trans (Cx.of_below hb4)
    obtain ⟨r0, r1, r2, r3, rz, hM⟩ := rk_box hxx hb
    obtain ⟨g1, g2, g3⟩ := rk_put hxx hb hc4 (.int .i64 4) (.int .i64 0) (.int .i64 0) (.slice (some ⟨w2.heap.size + 1, 0, none⟩) 1 1)
    have q5 := cell_of_block (o := 0) g3
    have q6 := cell_of_block (o := 1) g3
    have q7 := cell_of_block (o := 2) g3
    have q8 := cell_of_block (o := 3) g3
    simp at q5 q6 q7 q8
    have HG := hid (And.intro g1 g2)
    clear g1 g2 g3
    clear hxx hc4
    go_wp2_with fail
    exact bodyPost_ret (v := .tuple #[.agg #[.int .i64 4, .int .i64 0, .int .i64 0, .slice (some ⟨w2.heap.size + 1, 0, none⟩) 1 1], .bool false]) (by simp [results, Try.results44, go_sem, q5, q6, q7, q8]) rfl (.inl ⟨HR.out, _, _, _, _, _, _, rfl, ⟨_, HG.out.1⟩, HG.out.2⟩)
  have hal : Below w2.heap.size w2 ((w2.alloc (Obj.cells #[.int .i64 k, .int .i64 g, .int .i64 l, .slice a m cap] 44)).alloc (Obj.cells #[.int .i64 k, .int .i64 g, .int .i64 l, .slice a m cap] 44)) := ((Below.refl _ _).alloc (Nat.le_refl _) _).alloc (by simp) _
  have HR := hid (show prc s (d + 1) i = some (.mk 4 0 0 [t], j) by rw [HR0.out, hr])
  have HC3 := hid (hc2.below hal)
  have HX3 := hid (HX1.out.trans (hx2.trans (Cx.of_below hal)))
  have hrow : ((w2.alloc (Obj.cells #[.int .i64 k, .int .i64 g, .int .i64 l, .slice a m cap] 44)).alloc (Obj.cells #[.int .i64 k, .int .i64 g, .int .i64 l, .slice a m cap] 44)).heap[w2.heap.size + 1]? = some (Obj.cells #[.int .i64 k, .int .i64 g, .int .i64 l, .slice a m cap] 44) := by
    have := alloc_new (w2.alloc (Obj.cells #[.int .i64 k, .int .i64 g, .int .i64 l, .slice a m cap] 44)) (Obj.cells #[.int .i64 k, .int .i64 g, .int .i64 l, .slice a m cap] 44)
    simpa using this
  have HROW := hid hrow
  have HAT := hid (hat.below hal)
  have HF := hid (hf.below hal)
  have hlt : ∀ x ∈ fp, x < w2.heap.size + 1 := fun x hx => by have := (hf.2 x hx).2.1; omega
  have hsz2 : w1.heap.size ≤ w2.heap.size := hx2.size
  clear hat hf
  clear hr hc2 hx2 hal hrow
  go_wp2_with fail
  refine (coercionOf_any 4 _ _ _ _).mono ?_
  rintro e w4 ⟨rfl, hb4⟩
  have hc4 := HC3.out.below hb4
  have hxx := HX3.out.trans (Cx.of_below hb4)
  have hE := (hb4.block _ (lt_of_block HROW.out)).trans HROW.out
  have hat4 := co_one (k := 4) (g := 0) (l := 0) hE (HAT.out.below hb4)
  have hf4 := Fresh.row (HF.out.below hb4) hE (by omega) hlt
  obtain ⟨r0, r1, r2, r3, rz, hM⟩ := rk_box hxx hb
  obtain ⟨g1, g2, g3, g4, g5⟩ := rk_fin hxx hb hc4 hat4 hf4 hsz1
  have q5 := cell_of_block (o := 0) g3
  have q6 := cell_of_block (o := 1) g3
  have q7 := cell_of_block (o := 2) g3
  have q8 := cell_of_block (o := 3) g3
  simp at q5 q6 q7 q8
  have HG := hid (And.intro g1 (And.intro g2 (And.intro g4 g5)))
  clear g1 g2 g3 g4 g5 hxx hc4 hat4 hf4 hE
  go_wp2_with fail
  exact bodyPost_ret (v := .tuple #[.agg #[.int .i64 4, .int .i64 0, .int .i64 0, .slice (some ⟨w2.heap.size + 1, 0, none⟩) 1 1], .bool true]) (by simp [results, Try.results44, go_sem, q5, q6, q7, q8]) rfl (.inr ⟨_, _, _, _, _, _, _, _, _, HR.out, rfl, HG.out.2.2.1, HG.out.2.2.2, HG.out.1, HG.out.2.1⟩)

theorem readCoercion_succ (d : Nat) (ih : RkC d) (ihp : RpC d) (ihf : RfC d) : RkC (d + 1) := by
  intro n b s i w hn0 hn hc
  by_cases h1 : byt s i = 40
  · exact rc_two d ihf n b s i w hn0 hn hc h1
  by_cases h2 : byt s i = 33
  · exact rc_inj d ih n b s i w hn0 hn hc h2
  by_cases h3 : byt s i = 35
  · exact rc_prj d ihp n b s i w hn0 hn hc h3
  by_cases h4 : byt s i = 88
  · exact rc_fail d n b s i w hn0 hn hc h4
  exact rc_id d n b s i w hn0 hn hc h1 h2 h3 h4
end Go.Proofs.Ytgekfnodmgkdaaa

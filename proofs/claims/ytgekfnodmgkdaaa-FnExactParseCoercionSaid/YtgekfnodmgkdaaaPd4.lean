/- The specification's l6Parse: its arms, and the whole. -/
import Derived.Test.YtgekfnodmgkdaaaPd3
namespace Go.Proofs.Ytgekfnodmgkdaaa
open Go.RowKit

set_option linter.unusedVariables false in
set_option linter.unusedSimpArgs false in
set_option maxRecDepth 100000 in
set_option maxHeartbeats 2000000 in
theorem ps_id (d : Nat) (n : Int) (s : ByteArray) (i : Nat) (w : World) (hn0 : n ≤ 100) (hn : n.toNat = d + 1) (hi : i < s.size) (hs : s.size ≤ 1048576) (h33 : byt s i ≠ 33) (h35 : byt s i ≠ 35) (h88 : byt s i ≠ 88) (h40 : byt s i ≠ 40) :
    Calls Try.prog 42 #[.string s, .int .i64 (i : Int), .int .i64 n] w (PsK s (d + 1) i w) := by
  have hn1 : ¬ (n < 1) := by omega
  have k1 : ¬ ((i : Int) < 0) := by omega
  have k2 : ¬ ((s.size : Int) ≤ (i : Int)) := by omega
  have k3 : (i : Int) < (s.size : Int) := by omega
  have hn3 : (n - 1).toNat = d := by omega
  have hw : IntKind.i64.wrap (n - 1) = n - 1 := by rw [IntKind.wrap_i64]; omega
  have hwi : IntKind.i64.wrap ((i : Int) + 1) = ((i + 1 : Nat) : Int) := by rw [IntKind.wrap_i64]; omega
  have hbq := byt_ix hi
  have b33 : (((s[i]'hi).toNat : Int) == 33) = false := by rw [beq_eq_false_iff_ne]; omega
  have b35 : (((s[i]'hi).toNat : Int) == 35) = false := by rw [beq_eq_false_iff_ne]; omega
  have b88 : (((s[i]'hi).toNat : Int) == 88) = false := by rw [beq_eq_false_iff_ne]; omega
  have b40 : (((s[i]'hi).toNat : Int) == 40) = false := by rw [beq_eq_false_iff_ne]; omega
  have hM0 : (w.alloc (Obj.cells #[.int .i64 0, .int .i64 0, .int .i64 0, .slice none 0 0] 44)).heap[w.heap.size]? = some (Obj.cells #[.int .i64 0, .int .i64 0, .int .i64 0, .slice none 0 0] 44) := alloc_new w _
  have hB0 : Below w.heap.size w (w.alloc (Obj.cells #[.int .i64 0, .int .i64 0, .int .i64 0, .slice none 0 0] 44)) := (Below.refl _ _).alloc (Nat.le_refl _) _
  have HM := hid hM0
  have HB := hid hB0
  have HS := hid (And.intro h33 (And.intro h35 (And.intro h88 h40)))
  have HX := hid (show ∀ c0, shpK (d + 1) c0 = true → TxtAt s i (cx (d + 1) c0) → Co.mk 1 (kos (byt s i)) 0 [] = c0 ∧ ((i + 1 : Nat) : Int) = ((i + (cx (d + 1) c0).length : Nat) : Int) from fun c0 h1 h2 => by
    obtain ⟨_, h⟩ := cx_head h1 h2
    rcases h with ⟨g, rfl, hg1, hg2, e, el⟩ | ⟨K, a, b, _, rfl, e, _⟩ | ⟨a, rfl, e, _⟩ | ⟨l, a, rfl, e, _⟩ | ⟨l, g, rfl, e, _⟩
    · rw [e, kos_sgn ⟨hg1, by omega⟩, el]; exact ⟨rfl, rfl⟩
    · exact absurd e HS.out.2.2.2
    · exact absurd e HS.out.1
    · exact absurd e HS.out.2.1
    · exact absurd e HS.out.2.2.1)
  clear hbq hM0 hB0 h33 h35 h88 h40 hn
  go_enter Try.func42, Try.ntmps42
  go_wp2_with fail
  refine (l6Which_any s i _ hs).mono ?_
  rintro e w1 ⟨rfl, hb1⟩
  have hM1 := (hb1.block _ (lt_of_block HM.out)).trans HM.out
  have hB1 := below_trans HB.out hb1
  have hsz : w.heap.size < w1.heap.size := lt_of_block hM1
  have hM9 := hM1
  have hB9 := hB1
  have hat9 := (show (Co.mk 1 (kos (byt s i)) 0 []).At w1 (.agg #[.int .i64 1, .int .i64 (kos (byt s i)), .int .i64 0, .slice none 0 0]) [] from Co.at_mk.2 ⟨.slice none 0 0, rfl, CSl.nilA⟩)
  have hf9 := Fresh.nil w1.heap.size w1
  have r0 := cell_of_block (o := 0) hM9
  have r1 := cell_of_block (o := 1) hM9
  have r2 := cell_of_block (o := 2) hM9
  have r3 := cell_of_block (o := 3) hM9
  simp at r0 r1 r2 r3
  have rz := fun o => frozen_of_block (o := o) hM9
  have rl := lt_of_block hM9
  obtain ⟨g2, g3, g4, g5⟩ := rp_fin hM9 hB9 hat9 hf9 hsz
  have q5 := cell_of_block (o := 0) g3
  have q6 := cell_of_block (o := 1) g3
  have q7 := cell_of_block (o := 2) g3
  have q8 := cell_of_block (o := 3) g3
  simp at q5 q6 q7 q8
  have HG := hid (And.intro g2 (And.intro g4 g5))
  clear g2 g3 g4 g5 hM9 hB9 hat9 hf9
  go_wp2_with fail
  exact bodyPost_ret (v := .tuple #[.agg #[.int .i64 1, .int .i64 (kos (byt s i)), .int .i64 0, .slice none 0 0], .int .i64 ((i + 1 : Nat) : Int)]) (by simp [results, Try.results42, go_sem, q5, q6, q7, q8]) rfl ⟨_, _, _, _, _, _, _, _, _, rfl, HG.out.2.1, HG.out.2.2, .inr ⟨i + 1, rfl, by omega⟩, HX.out, HG.out.1⟩

set_option linter.unusedVariables false in
set_option linter.unusedSimpArgs false in
set_option maxRecDepth 100000 in
set_option maxHeartbeats 2000000 in
theorem ps_fail (d : Nat) (n : Int) (s : ByteArray) (i : Nat) (w : World) (hn0 : n ≤ 100) (hn : n.toNat = d + 1) (hi : i < s.size) (hs : s.size ≤ 1048576) (hb : byt s i = 88) :
    Calls Try.prog 42 #[.string s, .int .i64 (i : Int), .int .i64 n] w (PsK s (d + 1) i w) := by
  have hn1 : ¬ (n < 1) := by omega
  have k1 : ¬ ((i : Int) < 0) := by omega
  have k2 : ¬ ((s.size : Int) ≤ (i : Int)) := by omega
  have k3 : (i : Int) < (s.size : Int) := by omega
  have hn3 : (n - 1).toNat = d := by omega
  have hw : IntKind.i64.wrap (n - 1) = n - 1 := by rw [IntKind.wrap_i64]; omega
  have hwi : IntKind.i64.wrap ((i : Int) + 1) = ((i + 1 : Nat) : Int) := by rw [IntKind.wrap_i64]; omega
  have hbq := byt_ix hi
  have b33 : (((s[i]'hi).toNat : Int) == 33) = false := by rw [beq_eq_false_iff_ne]; omega
  have b35 : (((s[i]'hi).toNat : Int) == 35) = false := by rw [beq_eq_false_iff_ne]; omega
  have b88 : (((s[i]'hi).toNat : Int) == 88) = true := by rw [beq_iff_eq]; omega
  have b40 : (((s[i]'hi).toNat : Int) == 40) = false := by rw [beq_eq_false_iff_ne]; omega
  have hM0 : (w.alloc (Obj.cells #[.int .i64 0, .int .i64 0, .int .i64 0, .slice none 0 0] 44)).heap[w.heap.size]? = some (Obj.cells #[.int .i64 0, .int .i64 0, .int .i64 0, .slice none 0 0] 44) := alloc_new w _
  have hB0 : Below w.heap.size w (w.alloc (Obj.cells #[.int .i64 0, .int .i64 0, .int .i64 0, .slice none 0 0] 44)) := (Below.refl _ _).alloc (Nat.le_refl _) _
  have HM := hid hM0
  have HB := hid hB0
  have HS := hid hb
  clear hbq hM0 hB0 hb hn
  go_enter Try.func42, Try.ntmps42
  go_wp2_with fail
  refine (l6Number_any s (i + 1) _ hs (by omega)).mono ?_
  rintro e w1 ⟨m, p, rfl, hm1, hm2, hp, hu, hb1⟩
  have hM1 := (hb1.block _ (lt_of_block HM.out)).trans HM.out
  have hB1 := below_trans HB.out hb1
  have HU := hid hu
  have HM1 := hid hM1
  have HB1 := hid hB1
  clear hu hb1 hM1 hB1
  rcases hp with rfl | ⟨q, rfl, hq1, hq2⟩
  · have HF := hid (show ∀ c0, shpK (d + 1) c0 = true → TxtAt s i (cx (d + 1) c0) → False from fun c0 h1 h2 => by
      obtain ⟨_, h⟩ := cx_head h1 h2
      rcases h with ⟨g, rfl, hg1, hg2, e, el⟩ | ⟨K, a, b, hK, rfl, e, sa, sb, ta, e1, tb, e2, el⟩ | ⟨a, rfl, e, sa, ta, el⟩ | ⟨l, a, rfl, e, hl, sa, tl, e1, ta, el⟩ | ⟨l, g, rfl, e, hl, hg1, hg2, tl, e1, e2, el⟩
      · have := HS.out; have q := sgn_ne (g := g); omega
      · have := HS.out; omega
      · have := HS.out; omega
      · have := HS.out; omega
      · have h9 := HU.out l hl tl (by rw [e1]; exact sgn_ne.2.2.2.2.2)
        omega)
    have hM9 := HM1.out
    have hB9 := HB1.out
    have r0 := cell_of_block (o := 0) hM9
    have r1 := cell_of_block (o := 1) hM9
    have r2 := cell_of_block (o := 2) hM9
    have r3 := cell_of_block (o := 3) hM9
    simp at r0 r1 r2 r3
    have rz := fun o => frozen_of_block (o := o) hM9
    have rl := lt_of_block hM9
    obtain ⟨g2, g3⟩ := rp_put hM9 hB9 (.int .i64 0) (.int .i64 0) (.int .i64 0) (.slice none 0 0)
    have q5 := cell_of_block (o := 0) g3
    have q6 := cell_of_block (o := 1) g3
    have q7 := cell_of_block (o := 2) g3
    have q8 := cell_of_block (o := 3) g3
    simp at q5 q6 q7 q8
    have HG := hid g2
    clear g2 g3 hM9 hB9
    go_wp2_with fail
    exact bodyPost_ret (v := .tuple #[.agg #[.int .i64 0, .int .i64 0, .int .i64 0, .slice none 0 0], .int .i64 (-1)]) (by simp [results, Try.results42, go_sem, q5, q6, q7, q8]) rfl ⟨_, _, _, _, _, _, _, _, _, rfl, zk_at _, Fresh.nil _ _, .inl rfl, fun c0 h1 h2 => (HF.out c0 h1 h2).elim, HG.out⟩
  by_cases hq : q < s.size
  case neg =>
    have j1 : ¬ ((q : Int) < 0) := by omega
    have j2 : (s.size : Int) ≤ (q : Int) := by omega
    have j3 : ¬ ((q : Int) < (s.size : Int)) := by omega
    have HF := hid (show ∀ c0, shpK (d + 1) c0 = true → TxtAt s i (cx (d + 1) c0) → False from fun c0 h1 h2 => by
      obtain ⟨_, h⟩ := cx_head h1 h2
      rcases h with ⟨g, rfl, hg1, hg2, e, el⟩ | ⟨K, a, b, hK, rfl, e, sa, sb, ta, e1, tb, e2, el⟩ | ⟨a, rfl, e, sa, ta, el⟩ | ⟨l, a, rfl, e, hl, sa, tl, e1, ta, el⟩ | ⟨l, g, rfl, e, hl, hg1, hg2, tl, e1, e2, el⟩
      · have := HS.out; have q := sgn_ne (g := g); omega
      · have := HS.out; omega
      · have := HS.out; omega
      · have := HS.out; omega
      · have h9 := HU.out l hl tl (by rw [e1]; exact sgn_ne.2.2.2.2.2)
        omega)
    have hM9 := HM1.out
    have hB9 := HB1.out
    have r0 := cell_of_block (o := 0) hM9
    have r1 := cell_of_block (o := 1) hM9
    have r2 := cell_of_block (o := 2) hM9
    have r3 := cell_of_block (o := 3) hM9
    simp at r0 r1 r2 r3
    have rz := fun o => frozen_of_block (o := o) hM9
    have rl := lt_of_block hM9
    obtain ⟨g2, g3⟩ := rp_put hM9 hB9 (.int .i64 0) (.int .i64 0) (.int .i64 0) (.slice none 0 0)
    have q5 := cell_of_block (o := 0) g3
    have q6 := cell_of_block (o := 1) g3
    have q7 := cell_of_block (o := 2) g3
    have q8 := cell_of_block (o := 3) g3
    simp at q5 q6 q7 q8
    have HG := hid g2
    clear g2 g3 hM9 hB9
    go_wp2_with fail
    exact bodyPost_ret (v := .tuple #[.agg #[.int .i64 0, .int .i64 0, .int .i64 0, .slice none 0 0], .int .i64 (-1)]) (by simp [results, Try.results42, go_sem, q5, q6, q7, q8]) rfl ⟨_, _, _, _, _, _, _, _, _, rfl, zk_at _, Fresh.nil _ _, .inl rfl, fun c0 h1 h2 => (HF.out c0 h1 h2).elim, HG.out⟩
  have j1 : ¬ ((q : Int) < 0) := by omega
  have j2 : ¬ ((s.size : Int) ≤ (q : Int)) := by omega
  have j3 : (q : Int) < (s.size : Int) := by omega
  have hwq : IntKind.i64.wrap ((q : Int) + 1) = ((q + 1 : Nat) : Int) := by rw [IntKind.wrap_i64]; omega
  have HX := hid (show ∀ c0, shpK (d + 1) c0 = true → TxtAt s i (cx (d + 1) c0) → Co.mk 6 (kos (byt s q)) m [] = c0 ∧ ((q + 1 : Nat) : Int) = ((i + (cx (d + 1) c0).length : Nat) : Int) from fun c0 h1 h2 => by
    obtain ⟨_, h⟩ := cx_head h1 h2
    rcases h with ⟨g, rfl, hg1, hg2, e, el⟩ | ⟨K, a, b, hK, rfl, e, sa, sb, ta, e1, tb, e2, el⟩ | ⟨a, rfl, e, sa, ta, el⟩ | ⟨l, a, rfl, e, hl, sa, tl, e1, ta, el⟩ | ⟨l, g, rfl, e, hl, hg1, hg2, tl, e1, e2, el⟩
    · have := HS.out; have q := sgn_ne (g := g); omega
    · have := HS.out; omega
    · have := HS.out; omega
    · have := HS.out; omega
    · have h9 := HU.out l hl tl (by rw [e1]; exact sgn_ne.2.2.2.2.2)
      obtain rfl : m = l := h9.1
      obtain rfl : q = i + 1 + (Lib.itoa m).length := by omega
      rw [e1, kos_sgn ⟨by omega, hg2⟩, el]
      exact ⟨rfl, by omega⟩)
  go_wp2_with fail
  refine (l6Which_any s q _ hs).mono ?_
  rintro e w2 ⟨rfl, hb2⟩
  have hM2 := (hb2.block _ (lt_of_block HM1.out)).trans HM1.out
  have hB2 := HB1.out.trans (hb2.mono HB1.out.size)
  have hsz : w.heap.size < w2.heap.size := lt_of_block hM2
  have hM9 := hM2
  have hB9 := hB2
  have hat9 := (show (Co.mk 6 (kos (byt s q)) m []).At w2 (.agg #[.int .i64 6, .int .i64 (kos (byt s q)), .int .i64 m, .slice none 0 0]) [] from Co.at_mk.2 ⟨.slice none 0 0, rfl, CSl.nilA⟩)
  have hf9 := Fresh.nil w2.heap.size w2
  have r0 := cell_of_block (o := 0) hM9
  have r1 := cell_of_block (o := 1) hM9
  have r2 := cell_of_block (o := 2) hM9
  have r3 := cell_of_block (o := 3) hM9
  simp at r0 r1 r2 r3
  have rz := fun o => frozen_of_block (o := o) hM9
  have rl := lt_of_block hM9
  obtain ⟨g2, g3, g4, g5⟩ := rp_fin hM9 hB9 hat9 hf9 hsz
  have q5 := cell_of_block (o := 0) g3
  have q6 := cell_of_block (o := 1) g3
  have q7 := cell_of_block (o := 2) g3
  have q8 := cell_of_block (o := 3) g3
  simp at q5 q6 q7 q8
  have HG := hid (And.intro g2 (And.intro g4 g5))
  clear g2 g3 g4 g5 hM9 hB9 hat9 hf9
  go_wp2_with fail
  exact bodyPost_ret (v := .tuple #[.agg #[.int .i64 6, .int .i64 (kos (byt s q)), .int .i64 m, .slice none 0 0], .int .i64 ((q + 1 : Nat) : Int)]) (by simp [results, Try.results42, go_sem, q5, q6, q7, q8]) rfl ⟨_, _, _, _, _, _, _, _, _, rfl, HG.out.2.1, HG.out.2.2, .inr ⟨q + 1, rfl, by omega⟩, HX.out, HG.out.1⟩

set_option linter.unusedVariables false in
set_option linter.unusedSimpArgs false in
set_option maxRecDepth 100000 in
set_option maxHeartbeats 2000000 in
theorem ps_inj (d : Nat) (ih : PkC d) (n : Int) (s : ByteArray) (i : Nat) (w : World) (hn0 : n ≤ 100) (hn : n.toNat = d + 1) (hi : i < s.size) (hs : s.size ≤ 1048576) (hb : byt s i = 33) :
    Calls Try.prog 42 #[.string s, .int .i64 (i : Int), .int .i64 n] w (PsK s (d + 1) i w) := by
  have HIH := hid ih
  clear ih
  have hn1 : ¬ (n < 1) := by omega
  have k1 : ¬ ((i : Int) < 0) := by omega
  have k2 : ¬ ((s.size : Int) ≤ (i : Int)) := by omega
  have k3 : (i : Int) < (s.size : Int) := by omega
  have hn3 : (n - 1).toNat = d := by omega
  have hw : IntKind.i64.wrap (n - 1) = n - 1 := by rw [IntKind.wrap_i64]; omega
  have hwi : IntKind.i64.wrap ((i : Int) + 1) = ((i + 1 : Nat) : Int) := by rw [IntKind.wrap_i64]; omega
  have hbq := byt_ix hi
  have b33 : (((s[i]'hi).toNat : Int) == 33) = true := by rw [beq_iff_eq]; omega
  have b35 : (((s[i]'hi).toNat : Int) == 35) = false := by rw [beq_eq_false_iff_ne]; omega
  have b88 : (((s[i]'hi).toNat : Int) == 88) = false := by rw [beq_eq_false_iff_ne]; omega
  have b40 : (((s[i]'hi).toNat : Int) == 40) = false := by rw [beq_eq_false_iff_ne]; omega
  have hM0 : (w.alloc (Obj.cells #[.int .i64 0, .int .i64 0, .int .i64 0, .slice none 0 0] 44)).heap[w.heap.size]? = some (Obj.cells #[.int .i64 0, .int .i64 0, .int .i64 0, .slice none 0 0] 44) := alloc_new w _
  have hB0 : Below w.heap.size w (w.alloc (Obj.cells #[.int .i64 0, .int .i64 0, .int .i64 0, .slice none 0 0] 44)) := (Below.refl _ _).alloc (Nat.le_refl _) _
  have HM := hid hM0
  have HB := hid hB0
  have HS := hid hb
  clear hbq hM0 hB0 hb hn
  go_enter Try.func42, Try.ntmps42
  go_wp2_with fail
  refine (HIH.out (n - 1) s (i + 1) _ (by omega) hn3 (by omega) hs).mono ?_
  rintro e w2 ⟨c1, k, g, l, a, m, cap, fp, p2, rfl, hat, hf, hp, hu, hb2⟩
  have HU := hid hu
  have HPP := hid hp
  have HW := hid (lt_of_block HM.out)
  have HX := hid (show ∀ c0, shpK (d + 1) c0 = true → TxtAt s i (cx (d + 1) c0) → Co.mk 4 0 0 [c1] = c0 ∧ p2 = ((i + (cx (d + 1) c0).length : Nat) : Int) from fun c0 h1 h2 => by
    obtain ⟨_, h⟩ := cx_head h1 h2
    rcases h with ⟨g, rfl, hg1, hg2, e, el⟩ | ⟨K, a, b, hK, rfl, e, sa, sb, ta, e1, tb, e2, el⟩ | ⟨a, rfl, e, sa, ta, el⟩ | ⟨l, a, rfl, e, hl, sa, tl, e1, ta, el⟩ | ⟨l, g, rfl, e, hl, hg1, hg2, tl, e1, e2, el⟩
    · have := HS.out; have q := sgn_ne (g := g); omega
    · have := HS.out; omega
    · obtain ⟨rfl, h9⟩ := HU.out a sa ta
      rw [el]
      exact ⟨rfl, by omega⟩
    · have := HS.out; omega
    · have := HS.out; omega)
  clear hu hp
  have hal : Below w2.heap.size w2 ((w2.alloc (Obj.cells #[.int .i64 k, .int .i64 g, .int .i64 l, .slice a m cap] 44)).alloc (Obj.cells #[.int .i64 k, .int .i64 g, .int .i64 l, .slice a m cap] 44)) := ((Below.refl _ _).alloc (Nat.le_refl _) _).alloc (by simp) _
  have hM2 := (hb2.block _ (lt_of_block HM.out)).trans HM.out
  have hB2 := HB.out.trans (hb2.mono HB.out.size)
  have hM3 := (hal.block _ (lt_of_block hM2)).trans hM2
  have hB3 := hB2.trans (hal.mono hB2.size)
  have hrow : ((w2.alloc (Obj.cells #[.int .i64 k, .int .i64 g, .int .i64 l, .slice a m cap] 44)).alloc (Obj.cells #[.int .i64 k, .int .i64 g, .int .i64 l, .slice a m cap] 44)).heap[w2.heap.size + 1]? = some (Obj.cells #[.int .i64 k, .int .i64 g, .int .i64 l, .slice a m cap] 44) := by
    have := alloc_new (w2.alloc (Obj.cells #[.int .i64 k, .int .i64 g, .int .i64 l, .slice a m cap] 44)) (Obj.cells #[.int .i64 k, .int .i64 g, .int .i64 l, .slice a m cap] 44)
    simpa using this
  have hlt : ∀ x ∈ fp, x < w2.heap.size + 1 := fun x hx => by have := (hf.2 x hx).2.1; omega
  have hsz1 : w.heap.size < (w.alloc (Obj.cells #[.int .i64 0, .int .i64 0, .int .i64 0, .slice none 0 0] 44)).heap.size := lt_of_block HM.out
  have hsz2 : (w.alloc (Obj.cells #[.int .i64 0, .int .i64 0, .int .i64 0, .slice none 0 0] 44)).heap.size ≤ w2.heap.size := hb2.size
  have hat3 := co_one (k := 4) (g := 0) (l := 0) hrow (hat.below hal)
  have hf3 := Fresh.row (hf.below hal) hrow (by omega) hlt
  clear hat hf hrow hM2 hB2 hb2 hal
  have hM9 := hM3
  have hB9 := hB3
  have hat9 := hat3
  have hf9 := hf3
  have r0 := cell_of_block (o := 0) hM9
  have r1 := cell_of_block (o := 1) hM9
  have r2 := cell_of_block (o := 2) hM9
  have r3 := cell_of_block (o := 3) hM9
  simp at r0 r1 r2 r3
  have rz := fun o => frozen_of_block (o := o) hM9
  have rl := lt_of_block hM9
  obtain ⟨g2, g3, g4, g5⟩ := rp_fin hM9 hB9 hat9 hf9 hsz1
  have q5 := cell_of_block (o := 0) g3
  have q6 := cell_of_block (o := 1) g3
  have q7 := cell_of_block (o := 2) g3
  have q8 := cell_of_block (o := 3) g3
  simp at q5 q6 q7 q8
  have HG := hid (And.intro g2 (And.intro g4 g5))
  clear g2 g3 g4 g5 hM9 hB9 hat9 hf9
  go_wp2_with fail
  exact bodyPost_ret (v := .tuple #[.agg #[.int .i64 4, .int .i64 0, .int .i64 0, .slice (some ⟨w2.heap.size + 1, 0, none⟩) 1 1], .int .i64 p2]) (by simp [results, Try.results42, go_sem, q5, q6, q7, q8]) rfl ⟨_, _, _, _, _, _, _, _, _, rfl, HG.out.2.1, HG.out.2.2, HPP.out, HX.out, HG.out.1⟩

set_option linter.unusedVariables false in
set_option linter.unusedSimpArgs false in
set_option maxRecDepth 100000 in
set_option maxHeartbeats 2000000 in
theorem ps_prj (d : Nat) (ih : PkC d) (n : Int) (s : ByteArray) (i : Nat) (w : World) (hn0 : n ≤ 100) (hn : n.toNat = d + 1) (hi : i < s.size) (hs : s.size ≤ 1048576) (hb : byt s i = 35) :
    Calls Try.prog 42 #[.string s, .int .i64 (i : Int), .int .i64 n] w (PsK s (d + 1) i w) := by
  have HIH := hid ih
  clear ih
  have hn1 : ¬ (n < 1) := by omega
  have k1 : ¬ ((i : Int) < 0) := by omega
  have k2 : ¬ ((s.size : Int) ≤ (i : Int)) := by omega
  have k3 : (i : Int) < (s.size : Int) := by omega
  have hn3 : (n - 1).toNat = d := by omega
  have hw : IntKind.i64.wrap (n - 1) = n - 1 := by rw [IntKind.wrap_i64]; omega
  have hwi : IntKind.i64.wrap ((i : Int) + 1) = ((i + 1 : Nat) : Int) := by rw [IntKind.wrap_i64]; omega
  have hbq := byt_ix hi
  have b33 : (((s[i]'hi).toNat : Int) == 33) = false := by rw [beq_eq_false_iff_ne]; omega
  have b35 : (((s[i]'hi).toNat : Int) == 35) = true := by rw [beq_iff_eq]; omega
  have b88 : (((s[i]'hi).toNat : Int) == 88) = false := by rw [beq_eq_false_iff_ne]; omega
  have b40 : (((s[i]'hi).toNat : Int) == 40) = false := by rw [beq_eq_false_iff_ne]; omega
  have hM0 : (w.alloc (Obj.cells #[.int .i64 0, .int .i64 0, .int .i64 0, .slice none 0 0] 44)).heap[w.heap.size]? = some (Obj.cells #[.int .i64 0, .int .i64 0, .int .i64 0, .slice none 0 0] 44) := alloc_new w _
  have hB0 : Below w.heap.size w (w.alloc (Obj.cells #[.int .i64 0, .int .i64 0, .int .i64 0, .slice none 0 0] 44)) := (Below.refl _ _).alloc (Nat.le_refl _) _
  have HM := hid hM0
  have HB := hid hB0
  have HS := hid hb
  clear hbq hM0 hB0 hb hn
  go_enter Try.func42, Try.ntmps42
  go_wp2_with fail
  refine (l6Number_any s (i + 1) _ hs (by omega)).mono ?_
  rintro e w1 ⟨lb, p, rfl, hm1, hm2, hp, hu, hb1⟩
  have hM1 := (hb1.block _ (lt_of_block HM.out)).trans HM.out
  have hB1 := below_trans HB.out hb1
  have HU1 := hid hu
  have HM1 := hid hM1
  have HB1 := hid hB1
  clear hu hb1 hM1 hB1
  rcases hp with rfl | ⟨q, rfl, hq1, hq2⟩
  · have HF := hid (show ∀ c0, shpK (d + 1) c0 = true → TxtAt s i (cx (d + 1) c0) → False from fun c0 h1 h2 => by
      obtain ⟨_, h⟩ := cx_head h1 h2
      rcases h with ⟨g, rfl, hg1, hg2, e, el⟩ | ⟨K, a, b, hK, rfl, e, sa, sb, ta, e1, tb, e2, el⟩ | ⟨a, rfl, e, sa, ta, el⟩ | ⟨l, a, rfl, e, hl, sa, tl, e1, ta, el⟩ | ⟨l, g, rfl, e, hl, hg1, hg2, tl, e1, e2, el⟩
      · have := HS.out; have q := sgn_ne (g := g); omega
      · have := HS.out; omega
      · have := HS.out; omega
      · have h9 := HU1.out l hl tl (by rw [e1]; decide)
        omega
      · have := HS.out; omega)
    have hM9 := HM1.out
    have hB9 := HB1.out
    have r0 := cell_of_block (o := 0) hM9
    have r1 := cell_of_block (o := 1) hM9
    have r2 := cell_of_block (o := 2) hM9
    have r3 := cell_of_block (o := 3) hM9
    simp at r0 r1 r2 r3
    have rz := fun o => frozen_of_block (o := o) hM9
    have rl := lt_of_block hM9
    obtain ⟨g2, g3⟩ := rp_put hM9 hB9 (.int .i64 0) (.int .i64 0) (.int .i64 0) (.slice none 0 0)
    have q5 := cell_of_block (o := 0) g3
    have q6 := cell_of_block (o := 1) g3
    have q7 := cell_of_block (o := 2) g3
    have q8 := cell_of_block (o := 3) g3
    simp at q5 q6 q7 q8
    have HG := hid g2
    clear g2 g3 hM9 hB9
    go_wp2_with fail
    exact bodyPost_ret (v := .tuple #[.agg #[.int .i64 0, .int .i64 0, .int .i64 0, .slice none 0 0], .int .i64 (-1)]) (by simp [results, Try.results42, go_sem, q5, q6, q7, q8]) rfl ⟨_, _, _, _, _, _, _, _, _, rfl, zk_at _, Fresh.nil _ _, .inl rfl, fun c0 h1 h2 => (HF.out c0 h1 h2).elim, HG.out⟩
  by_cases hq : q < s.size
  case neg =>
    have j1 : ¬ ((q : Int) < 0) := by omega
    have j2 : (s.size : Int) ≤ (q : Int) := by omega
    have j3 : ¬ ((q : Int) < (s.size : Int)) := by omega
    have HF := hid (show ∀ c0, shpK (d + 1) c0 = true → TxtAt s i (cx (d + 1) c0) → False from fun c0 h1 h2 => by
      obtain ⟨_, h⟩ := cx_head h1 h2
      rcases h with ⟨g, rfl, hg1, hg2, e, el⟩ | ⟨K, a, b, hK, rfl, e, sa, sb, ta, e1, tb, e2, el⟩ | ⟨a, rfl, e, sa, ta, el⟩ | ⟨l, a, rfl, e, hl, sa, tl, e1, ta, el⟩ | ⟨l, g, rfl, e, hl, hg1, hg2, tl, e1, e2, el⟩
      · have := HS.out; have q := sgn_ne (g := g); omega
      · have := HS.out; omega
      · have := HS.out; omega
      · have h9 := HU1.out l hl tl (by rw [e1]; decide)
        have h8 := byt_in (show byt s (i + 1 + (Lib.itoa l).length) ≠ 0 by rw [e1]; decide)
        omega
      · have := HS.out; omega)
    have hM9 := HM1.out
    have hB9 := HB1.out
    have r0 := cell_of_block (o := 0) hM9
    have r1 := cell_of_block (o := 1) hM9
    have r2 := cell_of_block (o := 2) hM9
    have r3 := cell_of_block (o := 3) hM9
    simp at r0 r1 r2 r3
    have rz := fun o => frozen_of_block (o := o) hM9
    have rl := lt_of_block hM9
    obtain ⟨g2, g3⟩ := rp_put hM9 hB9 (.int .i64 0) (.int .i64 0) (.int .i64 0) (.slice none 0 0)
    have q5 := cell_of_block (o := 0) g3
    have q6 := cell_of_block (o := 1) g3
    have q7 := cell_of_block (o := 2) g3
    have q8 := cell_of_block (o := 3) g3
    simp at q5 q6 q7 q8
    have HG := hid g2
    clear g2 g3 hM9 hB9
    go_wp2_with fail
    exact bodyPost_ret (v := .tuple #[.agg #[.int .i64 0, .int .i64 0, .int .i64 0, .slice none 0 0], .int .i64 (-1)]) (by simp [results, Try.results42, go_sem, q5, q6, q7, q8]) rfl ⟨_, _, _, _, _, _, _, _, _, rfl, zk_at _, Fresh.nil _ _, .inl rfl, fun c0 h1 h2 => (HF.out c0 h1 h2).elim, HG.out⟩
  have j1 : ¬ ((q : Int) < 0) := by omega
  have j2 : ¬ ((s.size : Int) ≤ (q : Int)) := by omega
  have j3 : (q : Int) < (s.size : Int) := by omega
  have hqb := byt_ix hq
  by_cases h46 : byt s q = 46
  case neg =>
    have j4 : (((s[q]'hq).toNat : Int) != 46) = true := by rw [bne_iff_ne]; omega
    have j5 : (((s[q]'hq).toNat : Int) == 46) = false := by rw [beq_eq_false_iff_ne]; omega
    have HF := hid (show ∀ c0, shpK (d + 1) c0 = true → TxtAt s i (cx (d + 1) c0) → False from fun c0 h1 h2 => by
      obtain ⟨_, h⟩ := cx_head h1 h2
      rcases h with ⟨g, rfl, hg1, hg2, e, el⟩ | ⟨K, a, b, hK, rfl, e, sa, sb, ta, e1, tb, e2, el⟩ | ⟨a, rfl, e, sa, ta, el⟩ | ⟨l, a, rfl, e, hl, sa, tl, e1, ta, el⟩ | ⟨l, g, rfl, e, hl, hg1, hg2, tl, e1, e2, el⟩
      · have := HS.out; have q := sgn_ne (g := g); omega
      · have := HS.out; omega
      · have := HS.out; omega
      · have h9 := HU1.out l hl tl (by rw [e1]; decide)
        obtain rfl : q = i + 1 + (Lib.itoa l).length := by omega
        exact h46 e1
      · have := HS.out; omega)
    have hM9 := HM1.out
    have hB9 := HB1.out
    have r0 := cell_of_block (o := 0) hM9
    have r1 := cell_of_block (o := 1) hM9
    have r2 := cell_of_block (o := 2) hM9
    have r3 := cell_of_block (o := 3) hM9
    simp at r0 r1 r2 r3
    have rz := fun o => frozen_of_block (o := o) hM9
    have rl := lt_of_block hM9
    obtain ⟨g2, g3⟩ := rp_put hM9 hB9 (.int .i64 0) (.int .i64 0) (.int .i64 0) (.slice none 0 0)
    have q5 := cell_of_block (o := 0) g3
    have q6 := cell_of_block (o := 1) g3
    have q7 := cell_of_block (o := 2) g3
    have q8 := cell_of_block (o := 3) g3
    simp at q5 q6 q7 q8
    have HG := hid g2
    clear g2 g3 hM9 hB9
    go_wp2_with fail
    exact bodyPost_ret (v := .tuple #[.agg #[.int .i64 0, .int .i64 0, .int .i64 0, .slice none 0 0], .int .i64 (-1)]) (by simp [results, Try.results42, go_sem, q5, q6, q7, q8]) rfl ⟨_, _, _, _, _, _, _, _, _, rfl, zk_at _, Fresh.nil _ _, .inl rfl, fun c0 h1 h2 => (HF.out c0 h1 h2).elim, HG.out⟩
  have j4 : (((s[q]'hq).toNat : Int) != 46) = false := by rw [bne_eq_false_iff_eq]; omega
  have j5 : (((s[q]'hq).toNat : Int) == 46) = true := by rw [beq_iff_eq]; omega
  have hwq : IntKind.i64.wrap ((q : Int) + 1) = ((q + 1 : Nat) : Int) := by rw [IntKind.wrap_i64]; omega
  clear hqb
  go_wp2_with fail
  refine (HIH.out (n - 1) s (q + 1) _ (by omega) hn3 (by omega) hs).mono ?_
  rintro e w2 ⟨c1, k, g, l, a, m, cap, fp, p2, rfl, hat, hf, hp, hu, hb2⟩
  have HU := hid hu
  have HPP := hid hp
  have HX := hid (show ∀ c0, shpK (d + 1) c0 = true → TxtAt s i (cx (d + 1) c0) → Co.mk 5 0 lb [c1] = c0 ∧ p2 = ((i + (cx (d + 1) c0).length : Nat) : Int) from fun c0 h1 h2 => by
    obtain ⟨_, h⟩ := cx_head h1 h2
    rcases h with ⟨g, rfl, hg1, hg2, e, el⟩ | ⟨K, a, b, hK, rfl, e, sa, sb, ta, e1, tb, e2, el⟩ | ⟨a, rfl, e, sa, ta, el⟩ | ⟨l, a, rfl, e, hl, sa, tl, e1, ta, el⟩ | ⟨l, g, rfl, e, hl, hg1, hg2, tl, e1, e2, el⟩
    · have := HS.out; have q := sgn_ne (g := g); omega
    · have := HS.out; omega
    · have := HS.out; omega
    · have h9 := HU1.out l hl tl (by rw [e1]; decide)
      obtain rfl : lb = l := h9.1
      obtain rfl : q = i + 1 + (Lib.itoa lb).length := by omega
      obtain ⟨rfl, h8⟩ := HU.out a sa ta
      rw [el]
      exact ⟨rfl, by omega⟩
    · have := HS.out; omega)
  clear hu hp
  have hal : Below w2.heap.size w2 ((w2.alloc (Obj.cells #[.int .i64 k, .int .i64 g, .int .i64 l, .slice a m cap] 44)).alloc (Obj.cells #[.int .i64 k, .int .i64 g, .int .i64 l, .slice a m cap] 44)) := ((Below.refl _ _).alloc (Nat.le_refl _) _).alloc (by simp) _
  have hM2 := (hb2.block _ (lt_of_block HM1.out)).trans HM1.out
  have hB2 := HB1.out.trans (hb2.mono HB1.out.size)
  have hM3 := (hal.block _ (lt_of_block hM2)).trans hM2
  have hB3 := hB2.trans (hal.mono hB2.size)
  have hrow : ((w2.alloc (Obj.cells #[.int .i64 k, .int .i64 g, .int .i64 l, .slice a m cap] 44)).alloc (Obj.cells #[.int .i64 k, .int .i64 g, .int .i64 l, .slice a m cap] 44)).heap[w2.heap.size + 1]? = some (Obj.cells #[.int .i64 k, .int .i64 g, .int .i64 l, .slice a m cap] 44) := by
    have := alloc_new (w2.alloc (Obj.cells #[.int .i64 k, .int .i64 g, .int .i64 l, .slice a m cap] 44)) (Obj.cells #[.int .i64 k, .int .i64 g, .int .i64 l, .slice a m cap] 44)
    simpa using this
  have hlt : ∀ x ∈ fp, x < w2.heap.size + 1 := fun x hx => by have := (hf.2 x hx).2.1; omega
  have hsz1 : w.heap.size < w1.heap.size := lt_of_block HM1.out
  have hsz2 : w1.heap.size ≤ w2.heap.size := hb2.size
  have hat3 := co_one (k := 5) (g := 0) (l := lb) hrow (hat.below hal)
  have hf3 := Fresh.row (hf.below hal) hrow (by omega) hlt
  clear hat hf hrow hM2 hB2 hb2 hal
  have hM9 := hM3
  have hB9 := hB3
  have hat9 := hat3
  have hf9 := hf3
  have r0 := cell_of_block (o := 0) hM9
  have r1 := cell_of_block (o := 1) hM9
  have r2 := cell_of_block (o := 2) hM9
  have r3 := cell_of_block (o := 3) hM9
  simp at r0 r1 r2 r3
  have rz := fun o => frozen_of_block (o := o) hM9
  have rl := lt_of_block hM9
  obtain ⟨g2, g3, g4, g5⟩ := rp_fin hM9 hB9 hat9 hf9 hsz1
  have q5 := cell_of_block (o := 0) g3
  have q6 := cell_of_block (o := 1) g3
  have q7 := cell_of_block (o := 2) g3
  have q8 := cell_of_block (o := 3) g3
  simp at q5 q6 q7 q8
  have HG := hid (And.intro g2 (And.intro g4 g5))
  clear g2 g3 g4 g5 hM9 hB9 hat9 hf9
  go_wp2_with fail
  exact bodyPost_ret (v := .tuple #[.agg #[.int .i64 5, .int .i64 0, .int .i64 lb, .slice (some ⟨w2.heap.size + 1, 0, none⟩) 1 1], .int .i64 p2]) (by simp [results, Try.results42, go_sem, q5, q6, q7, q8]) rfl ⟨_, _, _, _, _, _, _, _, _, rfl, HG.out.2.1, HG.out.2.2, HPP.out, HX.out, HG.out.1⟩
end Go.Proofs.Ytgekfnodmgkdaaa

/- The specification's l6Parse: functions and pairs, and the whole. -/
import Derived.Test.YtgekfnodmgkdaaaPd4
namespace Go.Proofs.Ytgekfnodmgkdaaa
open Go.RowKit

set_option linter.unusedVariables false in
set_option linter.unusedSimpArgs false in
set_option maxRecDepth 100000 in
set_option maxHeartbeats 16000000 in
theorem ps_two (d : Nat) (ih : PkC d) (n : Int) (s : ByteArray) (i : Nat) (w : World) (hn0 : n ≤ 100) (hn : n.toNat = d + 1) (hi : i < s.size) (hs : s.size ≤ 1048576) (hb : byt s i = 40) :
    Calls Try.prog 42 #[.string s, .int .i64 (i : Int), .int .i64 n] w (PsK s (d + 1) i w) := by
  have HIH := hid ih
  clear ih
  have hn1 : ¬ (n < 1) := by omega
  have k1 : ¬ ((i : Int) < 0) := by omega
  have k2 : ¬ ((s.size : Int) ≤ (i : Int)) := by omega
  have k3 : (i : Int) < (s.size : Int) := by omega
  have hn3 : (n - 1).toNat = d := by omega
  have hw : IntKind.i64.wrap (n - 1) = n - 1 := by rw [IntKind.wrap_i64]; omega
  have hwi : IntKind.i64.wrap ((i : Int) + 1) = ((i + 1 : Nat) : Int) := by rw [IntKind.wrap_i64]; omega
  have hbq := byt_ix hi
  have b33 : (((s[i]'hi).toNat : Int) == 33) = false := by rw [beq_eq_false_iff_ne]; omega
  have b35 : (((s[i]'hi).toNat : Int) == 35) = false := by rw [beq_eq_false_iff_ne]; omega
  have b88 : (((s[i]'hi).toNat : Int) == 88) = false := by rw [beq_eq_false_iff_ne]; omega
  have b40 : (((s[i]'hi).toNat : Int) == 40) = true := by rw [beq_iff_eq]; omega
  have hM0 : (w.alloc (Obj.cells #[.int .i64 0, .int .i64 0, .int .i64 0, .slice none 0 0] 44)).heap[w.heap.size]? = some (Obj.cells #[.int .i64 0, .int .i64 0, .int .i64 0, .slice none 0 0] 44) := alloc_new w _
  have hB0 : Below w.heap.size w (w.alloc (Obj.cells #[.int .i64 0, .int .i64 0, .int .i64 0, .slice none 0 0] 44)) := (Below.refl _ _).alloc (Nat.le_refl _) _
  have HM := hid hM0
  have HB := hid hB0
  have HS := hid hb
  clear hbq hM0 hB0 hb hn
  go_enter Try.func42, Try.ntmps42
  go_wp2_with fail
  refine (HIH.out (n - 1) s (i + 1) _ (by omega) hn3 (by omega) hs).mono ?_
  rintro e w1 ⟨c1, k, g, l, a, m, cap, fp, p, rfl, hat, hf, hp, hu, hb1⟩
  have hal1 : Below w1.heap.size w1 (w1.alloc (Obj.cells #[.int .i64 k, .int .i64 g, .int .i64 l, .slice a m cap] 44)) := (Below.refl _ _).alloc (Nat.le_refl _) _
  have hb1' := below_trans hb1 hal1
  have hM1 := (hb1'.block _ (lt_of_block HM.out)).trans HM.out
  have hB1 := below_trans HB.out hb1'
  have HU := hid hu
  have HM1 := hid hM1
  have HB1 := hid hB1
  have HAT1 := hid (hat.below hal1)
  have HF1 := hid (hf.below hal1)
  have HLT1 := hid (show ∀ x ∈ fp, x < w1.heap.size from fun x hx => (hf.2 x hx).2.1)
  have HBX := hid (alloc_new w1 (Obj.cells #[.int .i64 k, .int .i64 g, .int .i64 l, .slice a m cap] 44))
  have HSZ1 := hid (show w.heap.size < w1.heap.size from lt_of_block ((hb1.block _ (lt_of_block HM.out)).trans HM.out))
  clear hu hb1 hM1 hB1 hb1' hal1 hat hf
  rcases hp with rfl | ⟨q, rfl, hq2⟩
  · have HF := hid (show ∀ c0, shpK (d + 1) c0 = true → TxtAt s i (cx (d + 1) c0) → False from fun c0 h1 h2 => by
      obtain ⟨_, h⟩ := cx_head h1 h2
      rcases h with ⟨g, rfl, hg1, hg2, e, el⟩ | ⟨K, a1, b1, hK, rfl, e, sa, sb, ta, e1, tb, e2, el⟩ | ⟨a, rfl, e, sa, ta, el⟩ | ⟨l, a, rfl, e, hl, sa, tl, e1, ta, el⟩ | ⟨l, g, rfl, e, hl, hg1, hg2, tl, e1, e2, el⟩
      · have := HS.out; have q := sgn_ne (g := g); omega
      · have h9 := HU.out a1 sa ta
        omega
      · have := HS.out; omega
      · have := HS.out; omega
      · have := HS.out; omega)
    have hM9 := HM1.out
    have hB9 := HB1.out
    have r0 := cell_of_block (o := 0) hM9
    have r1 := cell_of_block (o := 1) hM9
    have r2 := cell_of_block (o := 2) hM9
    have r3 := cell_of_block (o := 3) hM9
    simp at r0 r1 r2 r3
    have rz := fun o => frozen_of_block (o := o) hM9
    have rl := lt_of_block hM9
    obtain ⟨g2, g3⟩ := rp_put hM9 hB9 (.int .i64 0) (.int .i64 0) (.int .i64 0) (.slice none 0 0)
    have q5 := cell_of_block (o := 0) g3
    have q6 := cell_of_block (o := 1) g3
    have q7 := cell_of_block (o := 2) g3
    have q8 := cell_of_block (o := 3) g3
    simp at q5 q6 q7 q8
    have HG := hid g2
    clear g2 g3 hM9 hB9
    go_wp2_with fail
    exact bodyPost_ret (v := .tuple #[.agg #[.int .i64 0, .int .i64 0, .int .i64 0, .slice none 0 0], .int .i64 (-1)]) (by simp [results, Try.results42, go_sem, q5, q6, q7, q8]) rfl ⟨_, _, _, _, _, _, _, _, _, rfl, zk_at _, Fresh.nil _ _, .inl rfl, fun c0 h1 h2 => (HF.out c0 h1 h2).elim, HG.out⟩
  by_cases hq : q < s.size
  case neg =>
    have j1 : ¬ ((q : Int) < 0) := by omega
    have j2 : (s.size : Int) ≤ (q : Int) := by omega
    have j3 : ¬ ((q : Int) < (s.size : Int)) := by omega
    have HF := hid (show ∀ c0, shpK (d + 1) c0 = true → TxtAt s i (cx (d + 1) c0) → False from fun c0 h1 h2 => by
      obtain ⟨_, h⟩ := cx_head h1 h2
      rcases h with ⟨g, rfl, hg1, hg2, e, el⟩ | ⟨K, a1, b1, hK, rfl, e, sa, sb, ta, e1, tb, e2, el⟩ | ⟨a, rfl, e, sa, ta, el⟩ | ⟨l, a, rfl, e, hl, sa, tl, e1, ta, el⟩ | ⟨l, g, rfl, e, hl, hg1, hg2, tl, e1, e2, el⟩
      · have := HS.out; have q := sgn_ne (g := g); omega
      · have h9 := HU.out a1 sa ta
        have h8 := byt_in (show byt s (i + 1 + (cx d a1).length) ≠ 0 by rw [e1]; split <;> decide)
        omega
      · have := HS.out; omega
      · have := HS.out; omega
      · have := HS.out; omega)
    have hM9 := HM1.out
    have hB9 := HB1.out
    have r0 := cell_of_block (o := 0) hM9
    have r1 := cell_of_block (o := 1) hM9
    have r2 := cell_of_block (o := 2) hM9
    have r3 := cell_of_block (o := 3) hM9
    simp at r0 r1 r2 r3
    have rz := fun o => frozen_of_block (o := o) hM9
    have rl := lt_of_block hM9
    obtain ⟨g2, g3⟩ := rp_put hM9 hB9 (.int .i64 0) (.int .i64 0) (.int .i64 0) (.slice none 0 0)
    have q5 := cell_of_block (o := 0) g3
    have q6 := cell_of_block (o := 1) g3
    have q7 := cell_of_block (o := 2) g3
    have q8 := cell_of_block (o := 3) g3
    simp at q5 q6 q7 q8
    have HG := hid g2
    clear g2 g3 hM9 hB9
    go_wp2_with fail
    exact bodyPost_ret (v := .tuple #[.agg #[.int .i64 0, .int .i64 0, .int .i64 0, .slice none 0 0], .int .i64 (-1)]) (by simp [results, Try.results42, go_sem, q5, q6, q7, q8]) rfl ⟨_, _, _, _, _, _, _, _, _, rfl, zk_at _, Fresh.nil _ _, .inl rfl, fun c0 h1 h2 => (HF.out c0 h1 h2).elim, HG.out⟩
  have j1 : ¬ ((q : Int) < 0) := by omega
  have j2 : ¬ ((s.size : Int) ≤ (q : Int)) := by omega
  have j3 : (q : Int) < (s.size : Int) := by omega
  have hqb := byt_ix hq
  have hwq : IntKind.i64.wrap ((q : Int) + 1) = ((q + 1 : Nat) : Int) := by rw [IntKind.wrap_i64]; omega
  by_cases h62 : byt s q = 62
  · have j4 : (((s[q]'hq).toNat : Int) != 62) = false := by rw [bne_eq_false_iff_eq]; omega
    have j5 : (((s[q]'hq).toNat : Int) == 62) = true := by rw [beq_iff_eq]; omega
    clear hqb
    go_wp2_with fail
    refine (HIH.out (n - 1) s (q + 1) _ (by omega) hn3 (by omega) hs).mono ?_
    rintro e w2 ⟨c2, k2, g2, l2, a2, m2, cap2, fp2, p2, rfl, hat2, hf2, hp2, hu2, hb2⟩
    have HU2 := hid hu2
    have hal : Below w2.heap.size w2 (w2.alloc (Obj.cells #[.int .i64 k2, .int .i64 g2, .int .i64 l2, .slice a2 m2 cap2] 44)) := (Below.refl _ _).alloc (Nat.le_refl _) _
    have hal2 : Below w2.heap.size w2 ((w2.alloc (Obj.cells #[.int .i64 k2, .int .i64 g2, .int .i64 l2, .slice a2 m2 cap2] 44)).alloc (Obj.cells #[.int .i64 k, .int .i64 g, .int .i64 l, .slice a m cap, .int .i64 k2, .int .i64 g2, .int .i64 l2, .slice a2 m2 cap2] 44)) := hal.alloc (by simp) _
    have HB2 := hid hb2
    have HAL := hid hal
    have HAL2 := hid hal2
    have hB3 := HB1.out.trans ((below_trans hb2 hal).mono HB1.out.size)
    have hM3 := ((below_trans hb2 hal).block _ (lt_of_block HM1.out)).trans HM1.out
    have HB3 := hid hB3
    have HM3 := hid hM3
    have HAT2 := hid hat2
    have HF2 := hid hf2
    have HSZ2 := hid (show (w1.alloc (Obj.cells #[.int .i64 k, .int .i64 g, .int .i64 l, .slice a m cap] 44)).heap.size ≤ w2.heap.size from hb2.size)
    have hbx := ((below_trans hb2 hal).block _ (lt_of_block HBX.out)).trans HBX.out
    have y0 : (w2.alloc (Obj.cells #[.int .i64 k2, .int .i64 g2, .int .i64 l2, .slice a2 m2 cap2] 44)).cell? ⟨w1.heap.size, 0, none⟩ = some (.int .i64 k) := by rw [cell_of_block hbx]; rfl
    have y1 : (w2.alloc (Obj.cells #[.int .i64 k2, .int .i64 g2, .int .i64 l2, .slice a2 m2 cap2] 44)).cell? ⟨w1.heap.size, 1, none⟩ = some (.int .i64 g) := by rw [cell_of_block hbx]; rfl
    have y2 : (w2.alloc (Obj.cells #[.int .i64 k2, .int .i64 g2, .int .i64 l2, .slice a2 m2 cap2] 44)).cell? ⟨w1.heap.size, 2, none⟩ = some (.int .i64 l) := by rw [cell_of_block hbx]; rfl
    have y3 : (w2.alloc (Obj.cells #[.int .i64 k2, .int .i64 g2, .int .i64 l2, .slice a2 m2 cap2] 44)).cell? ⟨w1.heap.size, 3, none⟩ = some (.slice a m cap) := by rw [cell_of_block hbx]; rfl
    clear hu2 hb2 hal hal2 hB3 hM3 hat2 hf2 hbx
    rcases hp2 with rfl | ⟨q2, rfl, hq2⟩
    · have HF := hid (show ∀ c0, shpK (d + 1) c0 = true → TxtAt s i (cx (d + 1) c0) → False from fun c0 h1 h2 => by
        obtain ⟨_, h⟩ := cx_head h1 h2
        rcases h with ⟨g, rfl, hg1, hg2, e, el⟩ | ⟨K, a1, b1, hK, rfl, e, sa, sb, ta, e1, tb, e2, el⟩ | ⟨a, rfl, e, sa, ta, el⟩ | ⟨l, a, rfl, e, hl, sa, tl, e1, ta, el⟩ | ⟨l, g, rfl, e, hl, hg1, hg2, tl, e1, e2, el⟩
        · have := HS.out; have q := sgn_ne (g := g); omega
        · have h9 := HU.out a1 sa ta
          obtain rfl : q = i + 1 + (cx d a1).length := by omega
          have h8 := HU2.out b1 sb tb
          omega
        · have := HS.out; omega
        · have := HS.out; omega
        · have := HS.out; omega)
      have hM9 := HM3.out
      have hB9 := HB3.out
      have r0 := cell_of_block (o := 0) hM9
      have r1 := cell_of_block (o := 1) hM9
      have r2 := cell_of_block (o := 2) hM9
      have r3 := cell_of_block (o := 3) hM9
      simp at r0 r1 r2 r3
      have rz := fun o => frozen_of_block (o := o) hM9
      have rl := lt_of_block hM9
      obtain ⟨g2, g3⟩ := rp_put hM9 hB9 (.int .i64 0) (.int .i64 0) (.int .i64 0) (.slice none 0 0)
      have q5 := cell_of_block (o := 0) g3
      have q6 := cell_of_block (o := 1) g3
      have q7 := cell_of_block (o := 2) g3
      have q8 := cell_of_block (o := 3) g3
      simp at q5 q6 q7 q8
      have HG := hid g2
      clear g2 g3 hM9 hB9
      go_wp2_with fail
      exact bodyPost_ret (v := .tuple #[.agg #[.int .i64 0, .int .i64 0, .int .i64 0, .slice none 0 0], .int .i64 (-1)]) (by simp [results, Try.results42, go_sem, q5, q6, q7, q8]) rfl ⟨_, _, _, _, _, _, _, _, _, rfl, zk_at _, Fresh.nil _ _, .inl rfl, fun c0 h1 h2 => (HF.out c0 h1 h2).elim, HG.out⟩
    by_cases hqq : q2 < s.size
    case neg =>
      have j1 : ¬ ((q2 : Int) < 0) := by omega
      have j2 : (s.size : Int) ≤ (q2 : Int) := by omega
      have j3 : ¬ ((q2 : Int) < (s.size : Int)) := by omega
      have HF := hid (show ∀ c0, shpK (d + 1) c0 = true → TxtAt s i (cx (d + 1) c0) → False from fun c0 h1 h2 => by
        obtain ⟨_, h⟩ := cx_head h1 h2
        rcases h with ⟨g, rfl, hg1, hg2, e, el⟩ | ⟨K, a1, b1, hK, rfl, e, sa, sb, ta, e1, tb, e2, el⟩ | ⟨a, rfl, e, sa, ta, el⟩ | ⟨l, a, rfl, e, hl, sa, tl, e1, ta, el⟩ | ⟨l, g, rfl, e, hl, hg1, hg2, tl, e1, e2, el⟩
        · have := HS.out; have q := sgn_ne (g := g); omega
        · have h9 := HU.out a1 sa ta
          obtain rfl : q = i + 1 + (cx d a1).length := by omega
          have h8 := HU2.out b1 sb tb
          have h7 := byt_in (show byt s (i + 1 + (cx d a1).length + 1 + (cx d b1).length) ≠ 0 by rw [e2]; decide)
          omega
        · have := HS.out; omega
        · have := HS.out; omega
        · have := HS.out; omega)
      have hM9 := HM3.out
      have hB9 := HB3.out
      have r0 := cell_of_block (o := 0) hM9
      have r1 := cell_of_block (o := 1) hM9
      have r2 := cell_of_block (o := 2) hM9
      have r3 := cell_of_block (o := 3) hM9
      simp at r0 r1 r2 r3
      have rz := fun o => frozen_of_block (o := o) hM9
      have rl := lt_of_block hM9
      obtain ⟨g2, g3⟩ := rp_put hM9 hB9 (.int .i64 0) (.int .i64 0) (.int .i64 0) (.slice none 0 0)
      have q5 := cell_of_block (o := 0) g3
      have q6 := cell_of_block (o := 1) g3
      have q7 := cell_of_block (o := 2) g3
      have q8 := cell_of_block (o := 3) g3
      simp at q5 q6 q7 q8
      have HG := hid g2
      clear g2 g3 hM9 hB9
      go_wp2_with fail
      exact bodyPost_ret (v := .tuple #[.agg #[.int .i64 0, .int .i64 0, .int .i64 0, .slice none 0 0], .int .i64 (-1)]) (by simp [results, Try.results42, go_sem, q5, q6, q7, q8]) rfl ⟨_, _, _, _, _, _, _, _, _, rfl, zk_at _, Fresh.nil _ _, .inl rfl, fun c0 h1 h2 => (HF.out c0 h1 h2).elim, HG.out⟩
    have j1 : ¬ ((q2 : Int) < 0) := by omega
    have j2 : ¬ ((s.size : Int) ≤ (q2 : Int)) := by omega
    have j3 : (q2 : Int) < (s.size : Int) := by omega
    have hqb := byt_ix hqq
    by_cases h41 : byt s q2 = 41
    case neg =>
      have j4 : (((s[q2]'hqq).toNat : Int) != 41) = true := by rw [bne_iff_ne]; omega
      have j5 : (((s[q2]'hqq).toNat : Int) == 41) = false := by rw [beq_eq_false_iff_ne]; omega
      have HF := hid (show ∀ c0, shpK (d + 1) c0 = true → TxtAt s i (cx (d + 1) c0) → False from fun c0 h1 h2 => by
        obtain ⟨_, h⟩ := cx_head h1 h2
        rcases h with ⟨g, rfl, hg1, hg2, e, el⟩ | ⟨K, a1, b1, hK, rfl, e, sa, sb, ta, e1, tb, e2, el⟩ | ⟨a, rfl, e, sa, ta, el⟩ | ⟨l, a, rfl, e, hl, sa, tl, e1, ta, el⟩ | ⟨l, g, rfl, e, hl, hg1, hg2, tl, e1, e2, el⟩
        · have := HS.out; have q := sgn_ne (g := g); omega
        · have h9 := HU.out a1 sa ta
          obtain rfl : q = i + 1 + (cx d a1).length := by omega
          have h8 := HU2.out b1 sb tb
          obtain rfl : q2 = i + 1 + (cx d a1).length + 1 + (cx d b1).length := by omega
          exact h41 e2
        · have := HS.out; omega
        · have := HS.out; omega
        · have := HS.out; omega)
      have hM9 := HM3.out
      have hB9 := HB3.out
      have r0 := cell_of_block (o := 0) hM9
      have r1 := cell_of_block (o := 1) hM9
      have r2 := cell_of_block (o := 2) hM9
      have r3 := cell_of_block (o := 3) hM9
      simp at r0 r1 r2 r3
      have rz := fun o => frozen_of_block (o := o) hM9
      have rl := lt_of_block hM9
      obtain ⟨g2, g3⟩ := rp_put hM9 hB9 (.int .i64 0) (.int .i64 0) (.int .i64 0) (.slice none 0 0)
      have q5 := cell_of_block (o := 0) g3
      have q6 := cell_of_block (o := 1) g3
      have q7 := cell_of_block (o := 2) g3
      have q8 := cell_of_block (o := 3) g3
      simp at q5 q6 q7 q8
      have HG := hid g2
      clear g2 g3 hM9 hB9
      go_wp2_with fail
      exact bodyPost_ret (v := .tuple #[.agg #[.int .i64 0, .int .i64 0, .int .i64 0, .slice none 0 0], .int .i64 (-1)]) (by simp [results, Try.results42, go_sem, q5, q6, q7, q8]) rfl ⟨_, _, _, _, _, _, _, _, _, rfl, zk_at _, Fresh.nil _ _, .inl rfl, fun c0 h1 h2 => (HF.out c0 h1 h2).elim, HG.out⟩
    have j4 : (((s[q2]'hqq).toNat : Int) != 41) = false := by rw [bne_eq_false_iff_eq]; omega
    have j5 : (((s[q2]'hqq).toNat : Int) == 41) = true := by rw [beq_iff_eq]; omega
    have hwq2 : IntKind.i64.wrap ((q2 : Int) + 1) = ((q2 + 1 : Nat) : Int) := by rw [IntKind.wrap_i64]; omega
    have HX := hid (show ∀ c0, shpK (d + 1) c0 = true → TxtAt s i (cx (d + 1) c0) → Co.mk 2 0 0 [c1, c2] = c0 ∧ ((q2 + 1 : Nat) : Int) = ((i + (cx (d + 1) c0).length : Nat) : Int) from fun c0 h1 h2 => by
      obtain ⟨_, h⟩ := cx_head h1 h2
      rcases h with ⟨g, rfl, hg1, hg2, e, el⟩ | ⟨K, a1, b1, hK, rfl, e, sa, sb, ta, e1, tb, e2, el⟩ | ⟨a, rfl, e, sa, ta, el⟩ | ⟨l, a, rfl, e, hl, sa, tl, e1, ta, el⟩ | ⟨l, g, rfl, e, hl, hg1, hg2, tl, e1, e2, el⟩
      · have := HS.out; have q := sgn_ne (g := g); omega
      · have h9 := HU.out a1 sa ta
        obtain rfl : q = i + 1 + (cx d a1).length := by omega
        have h8 := HU2.out b1 sb tb
        have hKK : K = 2 := by
          rcases hK with rfl | rfl
          · rfl
          · exfalso; rw [if_neg (by decide)] at e1; omega
        obtain rfl := hKK
        obtain ⟨rfl, h9⟩ := h9
        obtain ⟨rfl, h8⟩ := h8
        rw [el]
        exact ⟨rfl, by omega⟩
      · have := HS.out; omega
      · have := HS.out; omega
      · have := HS.out; omega)
    have hM5 := ((HAL2.out).block _ (lt_of_block ((HB2.out.block _ (lt_of_block HM1.out)).trans HM1.out))).trans ((HB2.out.block _ (lt_of_block HM1.out)).trans HM1.out)
    have hB5 := HB1.out.trans ((below_trans HB2.out HAL2.out).mono HB1.out.size)
    have hrow : ((w2.alloc (Obj.cells #[.int .i64 k2, .int .i64 g2, .int .i64 l2, .slice a2 m2 cap2] 44)).alloc (Obj.cells #[.int .i64 k, .int .i64 g, .int .i64 l, .slice a m cap, .int .i64 k2, .int .i64 g2, .int .i64 l2, .slice a2 m2 cap2] 44)).heap[w2.heap.size + 1]? = some (Obj.cells #[.int .i64 k, .int .i64 g, .int .i64 l, .slice a m cap, .int .i64 k2, .int .i64 g2, .int .i64 l2, .slice a2 m2 cap2] 44) := by
      have := alloc_new (w2.alloc (Obj.cells #[.int .i64 k2, .int .i64 g2, .int .i64 l2, .slice a2 m2 cap2] 44)) (Obj.cells #[.int .i64 k, .int .i64 g, .int .i64 l, .slice a m cap, .int .i64 k2, .int .i64 g2, .int .i64 l2, .slice a2 m2 cap2] 44)
      simpa using this
    have ht5 := HAT1.out.below (below_trans HB2.out HAL2.out)
    have hu5 := HAT2.out.below HAL2.out
    have hf15 := HF1.out.below (below_trans HB2.out HAL2.out)
    have hf25 := HF2.out.below HAL2.out
    have hsz2 := HSZ2.out
    have hsz1 := HSZ1.out
    simp at hsz2
    have hlt1 : ∀ x ∈ fp, x < w1.heap.size := HLT1.out
    have hlt2 : ∀ x ∈ fp2, x < w2.heap.size := fun x hx => (HF2.out.2 x hx).2.1
    have hat5 := co_two (k := 2) (g := 0) (l := 0) hrow ht5 hu5
    have hf5 := Fresh.row (Fresh.join hf15 hf25 (fun x hx => by have := hlt1 x hx; simp; omega) (by simp; omega)) hrow (by simp; omega) (fun x hx => by
      rcases List.mem_append.1 hx with hx | hx
      · have := hlt1 x hx; omega
      · have := hlt2 x hx; omega)
    clear ht5 hu5 hf15 hf25 hrow
    have hM9 := hM5
    have hB9 := hB5
    have hat9 := hat5
    have hf9 := hf5
    have r0 := cell_of_block (o := 0) hM9
    have r1 := cell_of_block (o := 1) hM9
    have r2 := cell_of_block (o := 2) hM9
    have r3 := cell_of_block (o := 3) hM9
    simp at r0 r1 r2 r3
    have rz := fun o => frozen_of_block (o := o) hM9
    have rl := lt_of_block hM9
    obtain ⟨g2, g3, g4, g5⟩ := rp_fin hM9 hB9 hat9 hf9 (by simp)
    have q5 := cell_of_block (o := 0) g3
    have q6 := cell_of_block (o := 1) g3
    have q7 := cell_of_block (o := 2) g3
    have q8 := cell_of_block (o := 3) g3
    simp at q5 q6 q7 q8
    have HG := hid (And.intro g2 (And.intro g4 g5))
    clear g2 g3 g4 g5 hM9 hB9 hat9 hf9
    go_wp2_with fail
    exact bodyPost_ret (v := .tuple #[.agg #[.int .i64 2, .int .i64 0, .int .i64 0, .slice (some ⟨w2.heap.size + 1, 0, none⟩) 2 2], .int .i64 ((q2 + 1 : Nat) : Int)]) (by simp [results, Try.results42, go_sem, q5, q6, q7, q8]) rfl ⟨_, _, _, _, _, _, _, _, _, rfl, HG.out.2.1, HG.out.2.2, .inr ⟨q2 + 1, rfl, by omega⟩, HX.out, HG.out.1⟩
  have j4 : (((s[q]'hq).toNat : Int) != 62) = true := by rw [bne_iff_ne]; omega
  have j5 : (((s[q]'hq).toNat : Int) == 62) = false := by rw [beq_eq_false_iff_ne]; omega
  by_cases h42 : byt s q = 42
  · have j6 : (((s[q]'hq).toNat : Int) != 42) = false := by rw [bne_eq_false_iff_eq]; omega
    have j7 : (((s[q]'hq).toNat : Int) == 42) = true := by rw [beq_iff_eq]; omega
    clear hqb
    go_wp2_with fail
    refine (HIH.out (n - 1) s (q + 1) _ (by omega) hn3 (by omega) hs).mono ?_
    rintro e w2 ⟨c2, k2, g2, l2, a2, m2, cap2, fp2, p2, rfl, hat2, hf2, hp2, hu2, hb2⟩
    have HU2 := hid hu2
    have hal : Below w2.heap.size w2 (w2.alloc (Obj.cells #[.int .i64 k2, .int .i64 g2, .int .i64 l2, .slice a2 m2 cap2] 44)) := (Below.refl _ _).alloc (Nat.le_refl _) _
    have hal2 : Below w2.heap.size w2 ((w2.alloc (Obj.cells #[.int .i64 k2, .int .i64 g2, .int .i64 l2, .slice a2 m2 cap2] 44)).alloc (Obj.cells #[.int .i64 k, .int .i64 g, .int .i64 l, .slice a m cap, .int .i64 k2, .int .i64 g2, .int .i64 l2, .slice a2 m2 cap2] 44)) := hal.alloc (by simp) _
    have HB2 := hid hb2
    have HAL := hid hal
    have HAL2 := hid hal2
    have hB3 := HB1.out.trans ((below_trans hb2 hal).mono HB1.out.size)
    have hM3 := ((below_trans hb2 hal).block _ (lt_of_block HM1.out)).trans HM1.out
    have HB3 := hid hB3
    have HM3 := hid hM3
    have HAT2 := hid hat2
    have HF2 := hid hf2
    have HSZ2 := hid (show (w1.alloc (Obj.cells #[.int .i64 k, .int .i64 g, .int .i64 l, .slice a m cap] 44)).heap.size ≤ w2.heap.size from hb2.size)
    have hbx := ((below_trans hb2 hal).block _ (lt_of_block HBX.out)).trans HBX.out
    have y0 : (w2.alloc (Obj.cells #[.int .i64 k2, .int .i64 g2, .int .i64 l2, .slice a2 m2 cap2] 44)).cell? ⟨w1.heap.size, 0, none⟩ = some (.int .i64 k) := by rw [cell_of_block hbx]; rfl
    have y1 : (w2.alloc (Obj.cells #[.int .i64 k2, .int .i64 g2, .int .i64 l2, .slice a2 m2 cap2] 44)).cell? ⟨w1.heap.size, 1, none⟩ = some (.int .i64 g) := by rw [cell_of_block hbx]; rfl
    have y2 : (w2.alloc (Obj.cells #[.int .i64 k2, .int .i64 g2, .int .i64 l2, .slice a2 m2 cap2] 44)).cell? ⟨w1.heap.size, 2, none⟩ = some (.int .i64 l) := by rw [cell_of_block hbx]; rfl
    have y3 : (w2.alloc (Obj.cells #[.int .i64 k2, .int .i64 g2, .int .i64 l2, .slice a2 m2 cap2] 44)).cell? ⟨w1.heap.size, 3, none⟩ = some (.slice a m cap) := by rw [cell_of_block hbx]; rfl
    clear hu2 hb2 hal hal2 hB3 hM3 hat2 hf2 hbx
    rcases hp2 with rfl | ⟨q2, rfl, hq2⟩
    · have HF := hid (show ∀ c0, shpK (d + 1) c0 = true → TxtAt s i (cx (d + 1) c0) → False from fun c0 h1 h2 => by
        obtain ⟨_, h⟩ := cx_head h1 h2
        rcases h with ⟨g, rfl, hg1, hg2, e, el⟩ | ⟨K, a1, b1, hK, rfl, e, sa, sb, ta, e1, tb, e2, el⟩ | ⟨a, rfl, e, sa, ta, el⟩ | ⟨l, a, rfl, e, hl, sa, tl, e1, ta, el⟩ | ⟨l, g, rfl, e, hl, hg1, hg2, tl, e1, e2, el⟩
        · have := HS.out; have q := sgn_ne (g := g); omega
        · have h9 := HU.out a1 sa ta
          obtain rfl : q = i + 1 + (cx d a1).length := by omega
          have h8 := HU2.out b1 sb tb
          omega
        · have := HS.out; omega
        · have := HS.out; omega
        · have := HS.out; omega)
      have hM9 := HM3.out
      have hB9 := HB3.out
      have r0 := cell_of_block (o := 0) hM9
      have r1 := cell_of_block (o := 1) hM9
      have r2 := cell_of_block (o := 2) hM9
      have r3 := cell_of_block (o := 3) hM9
      simp at r0 r1 r2 r3
      have rz := fun o => frozen_of_block (o := o) hM9
      have rl := lt_of_block hM9
      obtain ⟨g2, g3⟩ := rp_put hM9 hB9 (.int .i64 0) (.int .i64 0) (.int .i64 0) (.slice none 0 0)
      have q5 := cell_of_block (o := 0) g3
      have q6 := cell_of_block (o := 1) g3
      have q7 := cell_of_block (o := 2) g3
      have q8 := cell_of_block (o := 3) g3
      simp at q5 q6 q7 q8
      have HG := hid g2
      clear g2 g3 hM9 hB9
      go_wp2_with fail
      exact bodyPost_ret (v := .tuple #[.agg #[.int .i64 0, .int .i64 0, .int .i64 0, .slice none 0 0], .int .i64 (-1)]) (by simp [results, Try.results42, go_sem, q5, q6, q7, q8]) rfl ⟨_, _, _, _, _, _, _, _, _, rfl, zk_at _, Fresh.nil _ _, .inl rfl, fun c0 h1 h2 => (HF.out c0 h1 h2).elim, HG.out⟩
    by_cases hqq : q2 < s.size
    case neg =>
      have j1 : ¬ ((q2 : Int) < 0) := by omega
      have j2 : (s.size : Int) ≤ (q2 : Int) := by omega
      have j3 : ¬ ((q2 : Int) < (s.size : Int)) := by omega
      have HF := hid (show ∀ c0, shpK (d + 1) c0 = true → TxtAt s i (cx (d + 1) c0) → False from fun c0 h1 h2 => by
        obtain ⟨_, h⟩ := cx_head h1 h2
        rcases h with ⟨g, rfl, hg1, hg2, e, el⟩ | ⟨K, a1, b1, hK, rfl, e, sa, sb, ta, e1, tb, e2, el⟩ | ⟨a, rfl, e, sa, ta, el⟩ | ⟨l, a, rfl, e, hl, sa, tl, e1, ta, el⟩ | ⟨l, g, rfl, e, hl, hg1, hg2, tl, e1, e2, el⟩
        · have := HS.out; have q := sgn_ne (g := g); omega
        · have h9 := HU.out a1 sa ta
          obtain rfl : q = i + 1 + (cx d a1).length := by omega
          have h8 := HU2.out b1 sb tb
          have h7 := byt_in (show byt s (i + 1 + (cx d a1).length + 1 + (cx d b1).length) ≠ 0 by rw [e2]; decide)
          omega
        · have := HS.out; omega
        · have := HS.out; omega
        · have := HS.out; omega)
      have hM9 := HM3.out
      have hB9 := HB3.out
      have r0 := cell_of_block (o := 0) hM9
      have r1 := cell_of_block (o := 1) hM9
      have r2 := cell_of_block (o := 2) hM9
      have r3 := cell_of_block (o := 3) hM9
      simp at r0 r1 r2 r3
      have rz := fun o => frozen_of_block (o := o) hM9
      have rl := lt_of_block hM9
      obtain ⟨g2, g3⟩ := rp_put hM9 hB9 (.int .i64 0) (.int .i64 0) (.int .i64 0) (.slice none 0 0)
      have q5 := cell_of_block (o := 0) g3
      have q6 := cell_of_block (o := 1) g3
      have q7 := cell_of_block (o := 2) g3
      have q8 := cell_of_block (o := 3) g3
      simp at q5 q6 q7 q8
      have HG := hid g2
      clear g2 g3 hM9 hB9
      go_wp2_with fail
      exact bodyPost_ret (v := .tuple #[.agg #[.int .i64 0, .int .i64 0, .int .i64 0, .slice none 0 0], .int .i64 (-1)]) (by simp [results, Try.results42, go_sem, q5, q6, q7, q8]) rfl ⟨_, _, _, _, _, _, _, _, _, rfl, zk_at _, Fresh.nil _ _, .inl rfl, fun c0 h1 h2 => (HF.out c0 h1 h2).elim, HG.out⟩
    have j1 : ¬ ((q2 : Int) < 0) := by omega
    have j2 : ¬ ((s.size : Int) ≤ (q2 : Int)) := by omega
    have j3 : (q2 : Int) < (s.size : Int) := by omega
    have hqb := byt_ix hqq
    by_cases h41 : byt s q2 = 41
    case neg =>
      have j4 : (((s[q2]'hqq).toNat : Int) != 41) = true := by rw [bne_iff_ne]; omega
      have j5 : (((s[q2]'hqq).toNat : Int) == 41) = false := by rw [beq_eq_false_iff_ne]; omega
      have HF := hid (show ∀ c0, shpK (d + 1) c0 = true → TxtAt s i (cx (d + 1) c0) → False from fun c0 h1 h2 => by
        obtain ⟨_, h⟩ := cx_head h1 h2
        rcases h with ⟨g, rfl, hg1, hg2, e, el⟩ | ⟨K, a1, b1, hK, rfl, e, sa, sb, ta, e1, tb, e2, el⟩ | ⟨a, rfl, e, sa, ta, el⟩ | ⟨l, a, rfl, e, hl, sa, tl, e1, ta, el⟩ | ⟨l, g, rfl, e, hl, hg1, hg2, tl, e1, e2, el⟩
        · have := HS.out; have q := sgn_ne (g := g); omega
        · have h9 := HU.out a1 sa ta
          obtain rfl : q = i + 1 + (cx d a1).length := by omega
          have h8 := HU2.out b1 sb tb
          obtain rfl : q2 = i + 1 + (cx d a1).length + 1 + (cx d b1).length := by omega
          exact h41 e2
        · have := HS.out; omega
        · have := HS.out; omega
        · have := HS.out; omega)
      have hM9 := HM3.out
      have hB9 := HB3.out
      have r0 := cell_of_block (o := 0) hM9
      have r1 := cell_of_block (o := 1) hM9
      have r2 := cell_of_block (o := 2) hM9
      have r3 := cell_of_block (o := 3) hM9
      simp at r0 r1 r2 r3
      have rz := fun o => frozen_of_block (o := o) hM9
      have rl := lt_of_block hM9
      obtain ⟨g2, g3⟩ := rp_put hM9 hB9 (.int .i64 0) (.int .i64 0) (.int .i64 0) (.slice none 0 0)
      have q5 := cell_of_block (o := 0) g3
      have q6 := cell_of_block (o := 1) g3
      have q7 := cell_of_block (o := 2) g3
      have q8 := cell_of_block (o := 3) g3
      simp at q5 q6 q7 q8
      have HG := hid g2
      clear g2 g3 hM9 hB9
      go_wp2_with fail
      exact bodyPost_ret (v := .tuple #[.agg #[.int .i64 0, .int .i64 0, .int .i64 0, .slice none 0 0], .int .i64 (-1)]) (by simp [results, Try.results42, go_sem, q5, q6, q7, q8]) rfl ⟨_, _, _, _, _, _, _, _, _, rfl, zk_at _, Fresh.nil _ _, .inl rfl, fun c0 h1 h2 => (HF.out c0 h1 h2).elim, HG.out⟩
    have j4 : (((s[q2]'hqq).toNat : Int) != 41) = false := by rw [bne_eq_false_iff_eq]; omega
    have j5 : (((s[q2]'hqq).toNat : Int) == 41) = true := by rw [beq_iff_eq]; omega
    have hwq2 : IntKind.i64.wrap ((q2 : Int) + 1) = ((q2 + 1 : Nat) : Int) := by rw [IntKind.wrap_i64]; omega
    have HX := hid (show ∀ c0, shpK (d + 1) c0 = true → TxtAt s i (cx (d + 1) c0) → Co.mk 3 0 0 [c1, c2] = c0 ∧ ((q2 + 1 : Nat) : Int) = ((i + (cx (d + 1) c0).length : Nat) : Int) from fun c0 h1 h2 => by
      obtain ⟨_, h⟩ := cx_head h1 h2
      rcases h with ⟨g, rfl, hg1, hg2, e, el⟩ | ⟨K, a1, b1, hK, rfl, e, sa, sb, ta, e1, tb, e2, el⟩ | ⟨a, rfl, e, sa, ta, el⟩ | ⟨l, a, rfl, e, hl, sa, tl, e1, ta, el⟩ | ⟨l, g, rfl, e, hl, hg1, hg2, tl, e1, e2, el⟩
      · have := HS.out; have q := sgn_ne (g := g); omega
      · have h9 := HU.out a1 sa ta
        obtain rfl : q = i + 1 + (cx d a1).length := by omega
        have h8 := HU2.out b1 sb tb
        have hKK : K = 3 := by
          rcases hK with rfl | rfl
          · exfalso; rw [if_pos rfl] at e1; omega
          · rfl
        obtain rfl := hKK
        obtain ⟨rfl, h9⟩ := h9
        obtain ⟨rfl, h8⟩ := h8
        rw [el]
        exact ⟨rfl, by omega⟩
      · have := HS.out; omega
      · have := HS.out; omega
      · have := HS.out; omega)
    have hM5 := ((HAL2.out).block _ (lt_of_block ((HB2.out.block _ (lt_of_block HM1.out)).trans HM1.out))).trans ((HB2.out.block _ (lt_of_block HM1.out)).trans HM1.out)
    have hB5 := HB1.out.trans ((below_trans HB2.out HAL2.out).mono HB1.out.size)
    have hrow : ((w2.alloc (Obj.cells #[.int .i64 k2, .int .i64 g2, .int .i64 l2, .slice a2 m2 cap2] 44)).alloc (Obj.cells #[.int .i64 k, .int .i64 g, .int .i64 l, .slice a m cap, .int .i64 k2, .int .i64 g2, .int .i64 l2, .slice a2 m2 cap2] 44)).heap[w2.heap.size + 1]? = some (Obj.cells #[.int .i64 k, .int .i64 g, .int .i64 l, .slice a m cap, .int .i64 k2, .int .i64 g2, .int .i64 l2, .slice a2 m2 cap2] 44) := by
      have := alloc_new (w2.alloc (Obj.cells #[.int .i64 k2, .int .i64 g2, .int .i64 l2, .slice a2 m2 cap2] 44)) (Obj.cells #[.int .i64 k, .int .i64 g, .int .i64 l, .slice a m cap, .int .i64 k2, .int .i64 g2, .int .i64 l2, .slice a2 m2 cap2] 44)
      simpa using this
    have ht5 := HAT1.out.below (below_trans HB2.out HAL2.out)
    have hu5 := HAT2.out.below HAL2.out
    have hf15 := HF1.out.below (below_trans HB2.out HAL2.out)
    have hf25 := HF2.out.below HAL2.out
    have hsz2 := HSZ2.out
    have hsz1 := HSZ1.out
    simp at hsz2
    have hlt1 : ∀ x ∈ fp, x < w1.heap.size := HLT1.out
    have hlt2 : ∀ x ∈ fp2, x < w2.heap.size := fun x hx => (HF2.out.2 x hx).2.1
    have hat5 := co_two (k := 3) (g := 0) (l := 0) hrow ht5 hu5
    have hf5 := Fresh.row (Fresh.join hf15 hf25 (fun x hx => by have := hlt1 x hx; simp; omega) (by simp; omega)) hrow (by simp; omega) (fun x hx => by
      rcases List.mem_append.1 hx with hx | hx
      · have := hlt1 x hx; omega
      · have := hlt2 x hx; omega)
    clear ht5 hu5 hf15 hf25 hrow
    have hM9 := hM5
    have hB9 := hB5
    have hat9 := hat5
    have hf9 := hf5
    have r0 := cell_of_block (o := 0) hM9
    have r1 := cell_of_block (o := 1) hM9
    have r2 := cell_of_block (o := 2) hM9
    have r3 := cell_of_block (o := 3) hM9
    simp at r0 r1 r2 r3
    have rz := fun o => frozen_of_block (o := o) hM9
    have rl := lt_of_block hM9
    obtain ⟨g2, g3, g4, g5⟩ := rp_fin hM9 hB9 hat9 hf9 (by simp)
    have q5 := cell_of_block (o := 0) g3
    have q6 := cell_of_block (o := 1) g3
    have q7 := cell_of_block (o := 2) g3
    have q8 := cell_of_block (o := 3) g3
    simp at q5 q6 q7 q8
    have HG := hid (And.intro g2 (And.intro g4 g5))
    clear g2 g3 g4 g5 hM9 hB9 hat9 hf9
    go_wp2_with fail
    exact bodyPost_ret (v := .tuple #[.agg #[.int .i64 3, .int .i64 0, .int .i64 0, .slice (some ⟨w2.heap.size + 1, 0, none⟩) 2 2], .int .i64 ((q2 + 1 : Nat) : Int)]) (by simp [results, Try.results42, go_sem, q5, q6, q7, q8]) rfl ⟨_, _, _, _, _, _, _, _, _, rfl, HG.out.2.1, HG.out.2.2, .inr ⟨q2 + 1, rfl, by omega⟩, HX.out, HG.out.1⟩
  have j6 : (((s[q]'hq).toNat : Int) != 42) = true := by rw [bne_iff_ne]; omega
  have j7 : (((s[q]'hq).toNat : Int) == 42) = false := by rw [beq_eq_false_iff_ne]; omega
  have HF := hid (show ∀ c0, shpK (d + 1) c0 = true → TxtAt s i (cx (d + 1) c0) → False from fun c0 h1 h2 => by
    obtain ⟨_, h⟩ := cx_head h1 h2
    rcases h with ⟨g, rfl, hg1, hg2, e, el⟩ | ⟨K, a1, b1, hK, rfl, e, sa, sb, ta, e1, tb, e2, el⟩ | ⟨a, rfl, e, sa, ta, el⟩ | ⟨l, a, rfl, e, hl, sa, tl, e1, ta, el⟩ | ⟨l, g, rfl, e, hl, hg1, hg2, tl, e1, e2, el⟩
    · have := HS.out; have q := sgn_ne (g := g); omega
    · have h9 := HU.out a1 sa ta
      obtain rfl : q = i + 1 + (cx d a1).length := by omega
      by_cases hKK : K = 2
      · rw [if_pos hKK] at e1; exact h62 e1
      · rw [if_neg hKK] at e1; exact h42 e1
    · have := HS.out; omega
    · have := HS.out; omega
    · have := HS.out; omega)
  have hM9 := HM1.out
  have hB9 := HB1.out
  have r0 := cell_of_block (o := 0) hM9
  have r1 := cell_of_block (o := 1) hM9
  have r2 := cell_of_block (o := 2) hM9
  have r3 := cell_of_block (o := 3) hM9
  simp at r0 r1 r2 r3
  have rz := fun o => frozen_of_block (o := o) hM9
  have rl := lt_of_block hM9
  obtain ⟨g2, g3⟩ := rp_put hM9 hB9 (.int .i64 0) (.int .i64 0) (.int .i64 0) (.slice none 0 0)
  have q5 := cell_of_block (o := 0) g3
  have q6 := cell_of_block (o := 1) g3
  have q7 := cell_of_block (o := 2) g3
  have q8 := cell_of_block (o := 3) g3
  simp at q5 q6 q7 q8
  have HG := hid g2
  clear g2 g3 hM9 hB9
  go_wp2_with fail
  exact bodyPost_ret (v := .tuple #[.agg #[.int .i64 0, .int .i64 0, .int .i64 0, .slice none 0 0], .int .i64 (-1)]) (by simp [results, Try.results42, go_sem, q5, q6, q7, q8]) rfl ⟨_, _, _, _, _, _, _, _, _, rfl, zk_at _, Fresh.nil _ _, .inl rfl, fun c0 h1 h2 => (HF.out c0 h1 h2).elim, HG.out⟩

theorem l6Parse_succ (d : Nat) (ih : PkC d) : PkC (d + 1) := by
  intro n s i w hn0 hn hi hs
  by_cases he : i < s.size
  case neg => exact l6Parse_end d n s i w hn0 hn hi hs he
  by_cases h1 : byt s i = 40
  · exact ps_two d ih n s i w hn0 hn he hs h1
  by_cases h2 : byt s i = 33
  · exact ps_inj d ih n s i w hn0 hn he hs h2
  by_cases h3 : byt s i = 35
  · exact ps_prj d ih n s i w hn0 hn he hs h3
  by_cases h4 : byt s i = 88
  · exact ps_fail d n s i w hn0 hn he hs h4
  exact ps_id d n s i w hn0 hn he hs h2 h3 h4 h1

theorem l6Parse_any : ∀ d : Nat, PkC d
  | 0 => l6Parse_zero
  | d + 1 => l6Parse_succ d (l6Parse_any d)
end Go.Proofs.Ytgekfnodmgkdaaa

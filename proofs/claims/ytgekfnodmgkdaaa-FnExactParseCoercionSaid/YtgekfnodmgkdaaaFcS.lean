/- The text of a coercion: the specification's l6Letter and l6Text. -/
import Derived.Test.YtgekfnodmgkdaaaFc0
import Derived.Test.YtgekfnodmgkdaaaDec
import Derived.Deep.RegionHeld3
namespace Go.Proofs.Ytgekfnodmgkdaaa
open Go.RowKit

set_option maxHeartbeats 400000 in
theorem l6Letter_at (g : Int) (h : 1 ≤ g ∧ g ≤ 5) (w : World) :
    Calls Try.prog 76 #[.int .i64 g] w fun e w' => e = .returned (.string ⟨#[sgn g]⟩) ∧ Below w.heap.size w w' := by
  have hg : g = 1 ∨ g = 2 ∨ g = 3 ∨ g = 4 ∨ g = 5 := by omega
  clear h
  rcases hg with rfl | rfl | rfl | rfl | rfl
  · go_enter Try.func76, Try.ntmps76
    go_wp2_with fail
    go_ret
    exact ⟨ret_s (by decide +kernel), by first | exact Below.refl _ _ | exact below_drew _⟩
  · go_enter Try.func76, Try.ntmps76
    go_wp2_with fail
    go_ret
    exact ⟨ret_s (by decide +kernel), by first | exact Below.refl _ _ | exact below_drew _⟩
  · go_enter Try.func76, Try.ntmps76
    go_wp2_with fail
    go_ret
    exact ⟨ret_s (by decide +kernel), by first | exact Below.refl _ _ | exact below_drew _⟩
  · go_enter Try.func76, Try.ntmps76
    go_wp2_with fail
    go_ret
    exact ⟨ret_s (by decide +kernel), by first | exact Below.refl _ _ | exact below_drew _⟩
  · go_enter Try.func76, Try.ntmps76
    go_wp2_with fail
    go_ret
    exact ⟨ret_s (by decide +kernel), by first | exact Below.refl _ _ | exact below_drew _⟩

def CxC (d : Nat) : Prop := ∀ (t : Co) (v : Value) (fp : List Nat) (w : World), d ≤ 9 → shpK d t = true → t.At w v fp →
  Calls Try.prog 65 #[v] w fun e w' => e = .returned (.string ⟨(cx d t).toArray⟩) ∧ Below w.heap.size w w'

set_option linter.unusedSimpArgs false in
set_option linter.unusedVariables false in
set_option maxRecDepth 100000 in
set_option maxHeartbeats 4000000 in
theorem l6Text_succ (d : Nat) (ih : CxC d) : CxC (d + 1) := by
  intro t v fp w hd hs hat
  have HIH := hid ih
  clear ih
  obtain ⟨k, g, l, ts, rfl⟩ := t.shape
  obtain ⟨s, rfl, hsl⟩ := Co.at_mk.1 hat
  obtain ⟨hn, hts⟩ := shpK_node hs
  rcases nodeC_cases hn with ⟨rfl, rfl, rfl, hg1, hg2⟩ | ⟨rfl, rfl, rfl, x, y, rfl⟩ | ⟨rfl, rfl, rfl, x, y, rfl⟩ | ⟨rfl, rfl, rfl, x, rfl, _⟩ | ⟨rfl, rfl, hl, x, rfl, _⟩ | ⟨rfl, rfl, hl, hg1, hg2⟩
  · obtain ⟨a, cap, rfl⟩ := hsl.shape
    have hb0 : Below w.heap.size w (w.alloc (Obj.cells #[.int .i64 1, .int .i64 g, .int .i64 0, .slice a 0 cap] 44)) := (Below.refl _ _).alloc (Nat.le_refl _) _
    have HB := hid hb0
    have HT := hid (show cx (d + 1) (.mk 1 g 0 []) = [sgn g] by simp [cx])
    have HL := hid (fun w0 => l6Letter_at g ⟨hg1, by omega⟩ w0)
    clear hs hat hsl hn hts hb0 hg1 hg2
    go_enter Try.func65, Try.ntmps65
    go_wp2_with fail
    refine (HL.out _).mono ?_
    rintro e w1 ⟨rfl, hb1⟩
    go_wp2_with fail
    go_ret
    exact ⟨ret_s (by rw [HT.out]), below_trans HB.out hb1⟩
  · obtain ⟨b, o, cap, k1, g1, l1, n1, a1, c1, k2, g2, l2, n2, a2, c2, f1, f2, rfl, hblt, d0, d1, d2, d3, d4, d5, d6, d7, hx1, hy1, _, hcap⟩ := hsl.two
    have hb0 : Below w.heap.size w (w.alloc (Obj.cells #[.int .i64 2, .int .i64 0, .int .i64 0, .slice (some ⟨b, o, none⟩) 2 cap] 44)) := (Below.refl _ _).alloc (Nat.le_refl _) _
    have HX := hid (hx1.below hb0)
    have HY := hid (hy1.below hb0)
    obtain ⟨x0, x1, x2, x3⟩ := box4 (Below.refl (w.alloc (Obj.cells #[.int .i64 2, .int .i64 0, .int .i64 0, .slice (some ⟨b, o, none⟩) 2 cap] 44)).heap.size (w.alloc (Obj.cells #[.int .i64 2, .int .i64 0, .int .i64 0, .slice (some ⟨b, o, none⟩) 2 cap] 44)))
    obtain ⟨SX, hSX⟩ : ∃ SX : ByteArray, SX = ⟨(cx d x).toArray⟩ := ⟨_, rfl⟩
    obtain ⟨SY, hSY⟩ : ∃ SY : ByteArray, SY = ⟨(cx d y).toArray⟩ := ⟨_, rfl⟩
    have l3 : SX.size ≤ 30720 := by rw [hSX]; exact cx_le d x (by omega) (hts x (by simp))
    have l4 : SY.size ≤ 30720 := by rw [hSY]; exact cx_le d y (by omega) (hts y (by simp))
    have q1 : ¬ (9223372036854775807 < 1 + SX.size) := by omega
    have q2 : ¬ (9223372036854775807 < 1 + SX.size + 1) := by omega
    have q3 : ¬ (9223372036854775807 < 1 + SX.size + 1 + SY.size) := by omega
    have q4 : ¬ (9223372036854775807 < 1 + SX.size + 1 + SY.size + 1) := by omega
    have HEX := hid hSX
    have HEY := hid hSY
    have e0 := cell_keep d0 hb0
    have e1 := cell_keep d1 hb0
    have e2 := cell_keep d2 hb0
    have e3 := cell_keep d3 hb0
    have e4 := cell_keep d4 hb0
    have e5 := cell_keep d5 hb0
    have e6 := cell_keep d6 hb0
    have e7 := cell_keep d7 hb0
    have HSX := hid (hts x (by simp))
    have HSY := hid (hts y (by simp))
    have HT := hid (show cx (d + 1) (.mk 2 0 0 [x, y]) = 40 :: (cx d x ++ (62 :: (cx d y ++ [41]))) by simp [cx, sgn])
    have HB := hid hb0
    clear hSX hSY hs hat hsl hn hts hb0 hx1 hy1 d0 d1 d2 d3 d4 d5 d6 d7
    go_enter Try.func65, Try.ntmps65
    go_wp2_with fail
    go_region_held3 (fun w' => Below (w.alloc (Obj.cells #[.int .i64 2, .int .i64 0, .int .i64 0, .slice (some ⟨b, o, none⟩) 2 cap] 44)).heap.size (w.alloc (Obj.cells #[.int .i64 2, .int .i64 0, .int .i64 0, .slice (some ⟨b, o, none⟩) 2 cap] 44)) w' ∧ w'.cell? ⟨w.heap.size, 0, none⟩ = some (.int .i64 2) ∧ w'.cell? ⟨w.heap.size, 1, none⟩ = some (.int .i64 0) ∧ w'.cell? ⟨w.heap.size, 2, none⟩ = some (.int .i64 0) ∧ w'.cell? ⟨w.heap.size, 3, none⟩ = some (.slice (some ⟨b, o, none⟩) 2 cap) ∧ w'.cell? ⟨b, o, none⟩ = some (.int .i64 k1) ∧ w'.cell? ⟨b, o + 1, none⟩ = some (.int .i64 g1) ∧ w'.cell? ⟨b, o + 2, none⟩ = some (.int .i64 l1) ∧ w'.cell? ⟨b, o + 3, none⟩ = some (.slice a1 n1 c1) ∧ w'.cell? ⟨b, o + 4, none⟩ = some (.int .i64 k2) ∧ w'.cell? ⟨b, o + 4 + 1, none⟩ = some (.int .i64 g2) ∧ w'.cell? ⟨b, o + 4 + 2, none⟩ = some (.int .i64 l2) ∧ w'.cell? ⟨b, o + 4 + 3, none⟩ = some (.slice a2 n2 c2))
      ((refine (fun hB => ⟨hB, cell_keep x0 hB, cell_keep x1 hB, cell_keep x2 hB, cell_keep x3 hB, cell_keep e0 hB, cell_keep e1 hB, cell_keep e2 hB, cell_keep e3 hB, cell_keep e4 hB, cell_keep e5 hB, cell_keep e6 hB, cell_keep e7 hB⟩ : Below (w.alloc (Obj.cells #[.int .i64 2, .int .i64 0, .int .i64 0, .slice (some ⟨b, o, none⟩) 2 cap] 44)).heap.size (w.alloc (Obj.cells #[.int .i64 2, .int .i64 0, .int .i64 0, .slice (some ⟨b, o, none⟩) 2 cap] 44)) _ → _) ?_; (first | exact below_drew _ | exact hk1 | exact hk2)))
      (first
        | (go_at_call_of 65 (Value.agg #[.int .i64 k1, .int .i64 g1, .int .i64 l1, .slice a1 n1 c1]); refine (HIH.out x _ f1 _ (by omega) HSX.out (HX.out.below (below_drew _))).mono ?_; rw [← HEX.out]; rintro e w1 ⟨rfl, hy1⟩; have hk1 := below_trans (below_drew _) hy1)
        | (go_at_call_of 65 (Value.agg #[.int .i64 k2, .int .i64 g2, .int .i64 l2, .slice a2 n2 c2]); refine (HIH.out y _ f2 _ (by omega) HSY.out (HY.out.below hk1)).mono ?_; rw [← HEY.out]; rintro e w2 ⟨rfl, hy2⟩; have hk2 := below_trans hk1 hy2))
    go_wp2_with fail
    go_ret
    exact ⟨ret_s (by rw [HT.out, HEX.out, HEY.out]; exact str_pair _ _ _), HB.out.trans (hk2.mono HB.out.size)⟩
  · obtain ⟨b, o, cap, k1, g1, l1, n1, a1, c1, k2, g2, l2, n2, a2, c2, f1, f2, rfl, hblt, d0, d1, d2, d3, d4, d5, d6, d7, hx1, hy1, _, hcap⟩ := hsl.two
    have hb0 : Below w.heap.size w (w.alloc (Obj.cells #[.int .i64 3, .int .i64 0, .int .i64 0, .slice (some ⟨b, o, none⟩) 2 cap] 44)) := (Below.refl _ _).alloc (Nat.le_refl _) _
    have HX := hid (hx1.below hb0)
    have HY := hid (hy1.below hb0)
    obtain ⟨x0, x1, x2, x3⟩ := box4 (Below.refl (w.alloc (Obj.cells #[.int .i64 3, .int .i64 0, .int .i64 0, .slice (some ⟨b, o, none⟩) 2 cap] 44)).heap.size (w.alloc (Obj.cells #[.int .i64 3, .int .i64 0, .int .i64 0, .slice (some ⟨b, o, none⟩) 2 cap] 44)))
    obtain ⟨SX, hSX⟩ : ∃ SX : ByteArray, SX = ⟨(cx d x).toArray⟩ := ⟨_, rfl⟩
    obtain ⟨SY, hSY⟩ : ∃ SY : ByteArray, SY = ⟨(cx d y).toArray⟩ := ⟨_, rfl⟩
    have l3 : SX.size ≤ 30720 := by rw [hSX]; exact cx_le d x (by omega) (hts x (by simp))
    have l4 : SY.size ≤ 30720 := by rw [hSY]; exact cx_le d y (by omega) (hts y (by simp))
    have q1 : ¬ (9223372036854775807 < 1 + SX.size) := by omega
    have q2 : ¬ (9223372036854775807 < 1 + SX.size + 1) := by omega
    have q3 : ¬ (9223372036854775807 < 1 + SX.size + 1 + SY.size) := by omega
    have q4 : ¬ (9223372036854775807 < 1 + SX.size + 1 + SY.size + 1) := by omega
    have HEX := hid hSX
    have HEY := hid hSY
    have e0 := cell_keep d0 hb0
    have e1 := cell_keep d1 hb0
    have e2 := cell_keep d2 hb0
    have e3 := cell_keep d3 hb0
    have e4 := cell_keep d4 hb0
    have e5 := cell_keep d5 hb0
    have e6 := cell_keep d6 hb0
    have e7 := cell_keep d7 hb0
    have HSX := hid (hts x (by simp))
    have HSY := hid (hts y (by simp))
    have HT := hid (show cx (d + 1) (.mk 3 0 0 [x, y]) = 40 :: (cx d x ++ (42 :: (cx d y ++ [41]))) by simp [cx, sgn])
    have HB := hid hb0
    clear hSX hSY hs hat hsl hn hts hb0 hx1 hy1 d0 d1 d2 d3 d4 d5 d6 d7
    go_enter Try.func65, Try.ntmps65
    go_wp2_with fail
    go_region_held3 (fun w' => Below (w.alloc (Obj.cells #[.int .i64 3, .int .i64 0, .int .i64 0, .slice (some ⟨b, o, none⟩) 2 cap] 44)).heap.size (w.alloc (Obj.cells #[.int .i64 3, .int .i64 0, .int .i64 0, .slice (some ⟨b, o, none⟩) 2 cap] 44)) w' ∧ w'.cell? ⟨w.heap.size, 0, none⟩ = some (.int .i64 3) ∧ w'.cell? ⟨w.heap.size, 1, none⟩ = some (.int .i64 0) ∧ w'.cell? ⟨w.heap.size, 2, none⟩ = some (.int .i64 0) ∧ w'.cell? ⟨w.heap.size, 3, none⟩ = some (.slice (some ⟨b, o, none⟩) 2 cap) ∧ w'.cell? ⟨b, o, none⟩ = some (.int .i64 k1) ∧ w'.cell? ⟨b, o + 1, none⟩ = some (.int .i64 g1) ∧ w'.cell? ⟨b, o + 2, none⟩ = some (.int .i64 l1) ∧ w'.cell? ⟨b, o + 3, none⟩ = some (.slice a1 n1 c1) ∧ w'.cell? ⟨b, o + 4, none⟩ = some (.int .i64 k2) ∧ w'.cell? ⟨b, o + 4 + 1, none⟩ = some (.int .i64 g2) ∧ w'.cell? ⟨b, o + 4 + 2, none⟩ = some (.int .i64 l2) ∧ w'.cell? ⟨b, o + 4 + 3, none⟩ = some (.slice a2 n2 c2))
      ((refine (fun hB => ⟨hB, cell_keep x0 hB, cell_keep x1 hB, cell_keep x2 hB, cell_keep x3 hB, cell_keep e0 hB, cell_keep e1 hB, cell_keep e2 hB, cell_keep e3 hB, cell_keep e4 hB, cell_keep e5 hB, cell_keep e6 hB, cell_keep e7 hB⟩ : Below (w.alloc (Obj.cells #[.int .i64 3, .int .i64 0, .int .i64 0, .slice (some ⟨b, o, none⟩) 2 cap] 44)).heap.size (w.alloc (Obj.cells #[.int .i64 3, .int .i64 0, .int .i64 0, .slice (some ⟨b, o, none⟩) 2 cap] 44)) _ → _) ?_; (first | exact below_drew _ | exact hk1 | exact hk2)))
      (first
        | (go_at_call_of 65 (Value.agg #[.int .i64 k1, .int .i64 g1, .int .i64 l1, .slice a1 n1 c1]); refine (HIH.out x _ f1 _ (by omega) HSX.out (HX.out.below (below_drew _))).mono ?_; rw [← HEX.out]; rintro e w1 ⟨rfl, hy1⟩; have hk1 := below_trans (below_drew _) hy1)
        | (go_at_call_of 65 (Value.agg #[.int .i64 k2, .int .i64 g2, .int .i64 l2, .slice a2 n2 c2]); refine (HIH.out y _ f2 _ (by omega) HSY.out (HY.out.below hk1)).mono ?_; rw [← HEY.out]; rintro e w2 ⟨rfl, hy2⟩; have hk2 := below_trans hk1 hy2))
    go_wp2_with fail
    go_ret
    exact ⟨ret_s (by rw [HT.out, HEX.out, HEY.out]; exact str_pair _ _ _), HB.out.trans (hk2.mono HB.out.size)⟩
  · skip
    obtain ⟨b, o, cap, k1, g1, l1, n1, a1, c1, f1, rfl, hblt, d0, d1, d2, d3, hx1, _, hcap⟩ := hsl.one
    have hb0 : Below w.heap.size w (w.alloc (Obj.cells #[.int .i64 4, .int .i64 0, .int .i64 0, .slice (some ⟨b, o, none⟩) 1 cap] 44)) := (Below.refl _ _).alloc (Nat.le_refl _) _
    have HX := hid (hx1.below hb0)
    obtain ⟨x0, x1, x2, x3⟩ := box4 (Below.refl (w.alloc (Obj.cells #[.int .i64 4, .int .i64 0, .int .i64 0, .slice (some ⟨b, o, none⟩) 1 cap] 44)).heap.size (w.alloc (Obj.cells #[.int .i64 4, .int .i64 0, .int .i64 0, .slice (some ⟨b, o, none⟩) 1 cap] 44)))
    obtain ⟨SX, hSX⟩ : ∃ SX : ByteArray, SX = ⟨(cx d x).toArray⟩ := ⟨_, rfl⟩
    have l3 : SX.size ≤ 30720 := by rw [hSX]; exact cx_le d x (by omega) (hts x (by simp))
    have HEX := hid hSX
    have e0 := cell_keep d0 hb0
    have e1 := cell_keep d1 hb0
    have e2 := cell_keep d2 hb0
    have e3 := cell_keep d3 hb0
    have q1 : ¬ (9223372036854775807 < 1 + SX.size) := by omega
    have HSX := hid (hts x (by simp))
    have HT := hid (show cx (d + 1) (.mk 4 0 0 [x]) = 33 :: cx d x by simp [cx])
    have HB := hid hb0
    clear hSX hs hat hsl hn hts hb0 hx1 d0 d1 d2 d3
    go_enter Try.func65, Try.ntmps65
    go_wp2_with fail
    refine (HIH.out x _ f1 _ (by omega) HSX.out HX.out).mono ?_
    rw [← HEX.out]
    rintro e w1 ⟨rfl, hb1⟩
    go_wp2_with fail
    go_ret
    refine ⟨ret_s ?_, below_trans HB.out hb1⟩
    rw [HT.out, HEX.out]
    apply ByteArray.ext
    simp [ByteArray.data_append]
  · have hlr := isLb_rng' hl
    by_cases hneg0 : l < 0
    · obtain ⟨u, rfl⟩ : ∃ u : Nat, l = -(u : Int) := ⟨l.natAbs, by omega⟩
      have hun : 1 ≤ u := by omega
      have q : u ≤ 99 := by omega
      have HD := hid (fun w0 => l18Dec_nat u (by omega) w0)
      have hlen := Lib.itoa_length_le (u : Int) (by omega) (by omega)
      rw [Lib.itoa_nonneg] at hlen
      obtain ⟨SN, hSN⟩ : ∃ S : ByteArray, S = ⟨(Lib.decDigits u).toArray⟩ := ⟨_, rfl⟩
      have ln : SN.size ≤ 21 := by rw [hSN]; exact hlen
      have HN := hid hSN
      rw [← hSN] at HD
      clear hSN hlen
      have hneg : (-(u : Int)) < 0 := by omega
      have hnn : - -(u : Int) = (u : Int) := by omega
      have hwr : IntKind.i64.wrap (u : Int) = (u : Int) := by rw [IntKind.wrap_i64]; omega
      have hwr2 : IntKind.i64.wrap (- -(u : Int)) = (u : Int) := by rw [hnn]; exact hwr
      obtain ⟨b, o, cap, k1, g1, l1, n1, a1, c1, f1, rfl, hblt, d0, d1, d2, d3, hx1, _, hcap⟩ := hsl.one
      have hb0 : Below w.heap.size w (w.alloc (Obj.cells #[.int .i64 5, .int .i64 0, .int .i64 (-(u : Int)), .slice (some ⟨b, o, none⟩) 1 cap] 44)) := (Below.refl _ _).alloc (Nat.le_refl _) _
      have HX := hid (hx1.below hb0)
      obtain ⟨x0, x1, x2, x3⟩ := box4 (Below.refl (w.alloc (Obj.cells #[.int .i64 5, .int .i64 0, .int .i64 (-(u : Int)), .slice (some ⟨b, o, none⟩) 1 cap] 44)).heap.size (w.alloc (Obj.cells #[.int .i64 5, .int .i64 0, .int .i64 (-(u : Int)), .slice (some ⟨b, o, none⟩) 1 cap] 44)))
      obtain ⟨SX, hSX⟩ : ∃ SX : ByteArray, SX = ⟨(cx d x).toArray⟩ := ⟨_, rfl⟩
      have l3 : SX.size ≤ 30720 := by rw [hSX]; exact cx_le d x (by omega) (hts x (by simp))
      have HEX := hid hSX
      have e0 := cell_keep d0 hb0
      have e1 := cell_keep d1 hb0
      have e2 := cell_keep d2 hb0
      have e3 := cell_keep d3 hb0
      have p11 : ¬ (9223372036854775807 < 2 + SN.size) := by omega
      have p21 : ¬ (9223372036854775807 < 2 + SN.size + 1) := by omega
      have p31 : ¬ (9223372036854775807 < 2 + SN.size + 1 + SX.size) := by omega
      have p15 : ¬ (9223372036854775807 < 1 + 1 + SN.size) := by omega
      have p25 : ¬ (9223372036854775807 < 1 + 1 + SN.size + 1) := by omega
      have p35 : ¬ (9223372036854775807 < 1 + 1 + SN.size + 1 + SX.size) := by omega
      have HSX := hid (hts x (by simp))
      have HT := hid (show cx (d + 1) (.mk 5 0 (-(u : Int)) [x]) = 35 :: (Lib.itoa (-(u : Int)) ++ (46 :: cx d x)) by simp [cx])
      have HB := hid hb0
      clear hSX hs hat hsl hn hts hb0 hx1 d0 d1 d2 d3 hneg0 hl hlr
      go_enter Try.func65, Try.ntmps65
      go_wp2_with fail
      go_region_held3 (fun w' => Below (w.alloc (Obj.cells #[.int .i64 5, .int .i64 0, .int .i64 (-(u : Int)), .slice (some ⟨b, o, none⟩) 1 cap] 44)).heap.size (w.alloc (Obj.cells #[.int .i64 5, .int .i64 0, .int .i64 (-(u : Int)), .slice (some ⟨b, o, none⟩) 1 cap] 44)) w' ∧ w'.cell? ⟨w.heap.size, 0, none⟩ = some (.int .i64 5) ∧ w'.cell? ⟨w.heap.size, 1, none⟩ = some (.int .i64 0) ∧ w'.cell? ⟨w.heap.size, 2, none⟩ = some (.int .i64 (-(u : Int))) ∧ w'.cell? ⟨w.heap.size, 3, none⟩ = some (.slice (some ⟨b, o, none⟩) 1 cap) ∧ w'.cell? ⟨b, o, none⟩ = some (.int .i64 k1) ∧ w'.cell? ⟨b, o + 1, none⟩ = some (.int .i64 g1) ∧ w'.cell? ⟨b, o + 2, none⟩ = some (.int .i64 l1) ∧ w'.cell? ⟨b, o + 3, none⟩ = some (.slice a1 n1 c1))
        ((refine (fun hB => ⟨hB, cell_keep x0 hB, cell_keep x1 hB, cell_keep x2 hB, cell_keep x3 hB, cell_keep e0 hB, cell_keep e1 hB, cell_keep e2 hB, cell_keep e3 hB⟩ : Below (w.alloc (Obj.cells #[.int .i64 5, .int .i64 0, .int .i64 (-(u : Int)), .slice (some ⟨b, o, none⟩) 1 cap] 44)).heap.size (w.alloc (Obj.cells #[.int .i64 5, .int .i64 0, .int .i64 (-(u : Int)), .slice (some ⟨b, o, none⟩) 1 cap] 44)) _ → _) ?_; (first | exact below_drew _ | exact hk1 | exact hk2)))
        (first
          | (go_at_call 77; refine (HD.out _).mono ?_; rintro e w1 ⟨rfl, hy1⟩; have hk1 := below_trans (below_drew _) hy1)
          | (go_at_call 65; refine (HIH.out x _ f1 _ (by omega) HSX.out (HX.out.below hk1)).mono ?_; rw [← HEX.out]; rintro e w2 ⟨rfl, hy2⟩; have hk2 := below_trans hk1 hy2))
      go_wp2_with fail
      go_ret
      refine ⟨ret_s ?_, HB.out.trans (hk2.mono HB.out.size)⟩
      rw [HT.out, HEX.out, HN.out, Lib.itoa_neg u (by omega)]
      apply ByteArray.ext
      simp [ByteArray.data_append]
    · obtain ⟨u, rfl⟩ : ∃ u : Nat, l = (u : Int) := ⟨l.toNat, by omega⟩
      have q : u ≤ 99 := by omega
      have HD := hid (fun w0 => l18Dec_nat u (by omega) w0)
      have hlen := Lib.itoa_length_le (u : Int) (by omega) (by omega)
      rw [Lib.itoa_nonneg] at hlen
      obtain ⟨SN, hSN⟩ : ∃ S : ByteArray, S = ⟨(Lib.decDigits u).toArray⟩ := ⟨_, rfl⟩
      have ln : SN.size ≤ 21 := by rw [hSN]; exact hlen
      have HN := hid hSN
      rw [← hSN] at HD
      clear hSN hlen
      have hneg : ¬ ((u : Int) < 0) := by omega
      obtain ⟨b, o, cap, k1, g1, l1, n1, a1, c1, f1, rfl, hblt, d0, d1, d2, d3, hx1, _, hcap⟩ := hsl.one
      have hb0 : Below w.heap.size w (w.alloc (Obj.cells #[.int .i64 5, .int .i64 0, .int .i64 (u : Int), .slice (some ⟨b, o, none⟩) 1 cap] 44)) := (Below.refl _ _).alloc (Nat.le_refl _) _
      have HX := hid (hx1.below hb0)
      obtain ⟨x0, x1, x2, x3⟩ := box4 (Below.refl (w.alloc (Obj.cells #[.int .i64 5, .int .i64 0, .int .i64 (u : Int), .slice (some ⟨b, o, none⟩) 1 cap] 44)).heap.size (w.alloc (Obj.cells #[.int .i64 5, .int .i64 0, .int .i64 (u : Int), .slice (some ⟨b, o, none⟩) 1 cap] 44)))
      obtain ⟨SX, hSX⟩ : ∃ SX : ByteArray, SX = ⟨(cx d x).toArray⟩ := ⟨_, rfl⟩
      have l3 : SX.size ≤ 30720 := by rw [hSX]; exact cx_le d x (by omega) (hts x (by simp))
      have HEX := hid hSX
      have e0 := cell_keep d0 hb0
      have e1 := cell_keep d1 hb0
      have e2 := cell_keep d2 hb0
      have e3 := cell_keep d3 hb0
      have p11 : ¬ (9223372036854775807 < 1 + SN.size) := by omega
      have p21 : ¬ (9223372036854775807 < 1 + SN.size + 1) := by omega
      have p31 : ¬ (9223372036854775807 < 1 + SN.size + 1 + SX.size) := by omega
      have p15 : ¬ (9223372036854775807 < 1 + 0 + SN.size) := by omega
      have p25 : ¬ (9223372036854775807 < 1 + 0 + SN.size + 1) := by omega
      have p35 : ¬ (9223372036854775807 < 1 + 0 + SN.size + 1 + SX.size) := by omega
      have HSX := hid (hts x (by simp))
      have HT := hid (show cx (d + 1) (.mk 5 0 (u : Int) [x]) = 35 :: (Lib.itoa (u : Int) ++ (46 :: cx d x)) by simp [cx])
      have HB := hid hb0
      clear hSX hs hat hsl hn hts hb0 hx1 d0 d1 d2 d3 hneg0 hl hlr
      go_enter Try.func65, Try.ntmps65
      go_wp2_with fail
      go_region_held3 (fun w' => Below (w.alloc (Obj.cells #[.int .i64 5, .int .i64 0, .int .i64 (u : Int), .slice (some ⟨b, o, none⟩) 1 cap] 44)).heap.size (w.alloc (Obj.cells #[.int .i64 5, .int .i64 0, .int .i64 (u : Int), .slice (some ⟨b, o, none⟩) 1 cap] 44)) w' ∧ w'.cell? ⟨w.heap.size, 0, none⟩ = some (.int .i64 5) ∧ w'.cell? ⟨w.heap.size, 1, none⟩ = some (.int .i64 0) ∧ w'.cell? ⟨w.heap.size, 2, none⟩ = some (.int .i64 (u : Int)) ∧ w'.cell? ⟨w.heap.size, 3, none⟩ = some (.slice (some ⟨b, o, none⟩) 1 cap) ∧ w'.cell? ⟨b, o, none⟩ = some (.int .i64 k1) ∧ w'.cell? ⟨b, o + 1, none⟩ = some (.int .i64 g1) ∧ w'.cell? ⟨b, o + 2, none⟩ = some (.int .i64 l1) ∧ w'.cell? ⟨b, o + 3, none⟩ = some (.slice a1 n1 c1))
        ((refine (fun hB => ⟨hB, cell_keep x0 hB, cell_keep x1 hB, cell_keep x2 hB, cell_keep x3 hB, cell_keep e0 hB, cell_keep e1 hB, cell_keep e2 hB, cell_keep e3 hB⟩ : Below (w.alloc (Obj.cells #[.int .i64 5, .int .i64 0, .int .i64 (u : Int), .slice (some ⟨b, o, none⟩) 1 cap] 44)).heap.size (w.alloc (Obj.cells #[.int .i64 5, .int .i64 0, .int .i64 (u : Int), .slice (some ⟨b, o, none⟩) 1 cap] 44)) _ → _) ?_; (first | exact below_drew _ | exact hk1 | exact hk2)))
        (first
          | (go_at_call 77; refine (HD.out _).mono ?_; rintro e w1 ⟨rfl, hy1⟩; have hk1 := below_trans (below_drew _) hy1)
          | (go_at_call 65; refine (HIH.out x _ f1 _ (by omega) HSX.out (HX.out.below hk1)).mono ?_; rw [← HEX.out]; rintro e w2 ⟨rfl, hy2⟩; have hk2 := below_trans hk1 hy2))
      go_wp2_with fail
      go_ret
      refine ⟨ret_s ?_, HB.out.trans (hk2.mono HB.out.size)⟩
      rw [HT.out, HEX.out, HN.out, Lib.itoa_nonneg]
      apply ByteArray.ext
      simp [ByteArray.data_append]
  · have hlr := isLb_rng' hl
    by_cases hneg0 : l < 0
    · obtain ⟨u, rfl⟩ : ∃ u : Nat, l = -(u : Int) := ⟨l.natAbs, by omega⟩
      have hun : 1 ≤ u := by omega
      have q : u ≤ 99 := by omega
      have HD := hid (fun w0 => l18Dec_nat u (by omega) w0)
      have hlen := Lib.itoa_length_le (u : Int) (by omega) (by omega)
      rw [Lib.itoa_nonneg] at hlen
      obtain ⟨SN, hSN⟩ : ∃ S : ByteArray, S = ⟨(Lib.decDigits u).toArray⟩ := ⟨_, rfl⟩
      have ln : SN.size ≤ 21 := by rw [hSN]; exact hlen
      have HN := hid hSN
      rw [← hSN] at HD
      clear hSN hlen
      have hneg : (-(u : Int)) < 0 := by omega
      have hnn : - -(u : Int) = (u : Int) := by omega
      have hwr : IntKind.i64.wrap (u : Int) = (u : Int) := by rw [IntKind.wrap_i64]; omega
      have hwr2 : IntKind.i64.wrap (- -(u : Int)) = (u : Int) := by rw [hnn]; exact hwr
      obtain ⟨a, cap, rfl⟩ := hsl.shape
      have hb0 : Below w.heap.size w (w.alloc (Obj.cells #[.int .i64 6, .int .i64 g, .int .i64 (-(u : Int)), .slice a 0 cap] 44)) := (Below.refl _ _).alloc (Nat.le_refl _) _
      obtain ⟨x0, x1, x2, x3⟩ := box4 (Below.refl (w.alloc (Obj.cells #[.int .i64 6, .int .i64 g, .int .i64 (-(u : Int)), .slice a 0 cap] 44)).heap.size (w.alloc (Obj.cells #[.int .i64 6, .int .i64 g, .int .i64 (-(u : Int)), .slice a 0 cap] 44)))
      have HL := hid (fun w0 => l6Letter_at g ⟨by omega, hg2⟩ w0)
      have p11 : ¬ (9223372036854775807 < 2 + SN.size) := by omega
      have p21 : ¬ (9223372036854775807 < 2 + SN.size + 1) := by omega
      have p15 : ¬ (9223372036854775807 < 1 + 1 + SN.size) := by omega
      have p25 : ¬ (9223372036854775807 < 1 + 1 + SN.size + 1) := by omega
      have HT := hid (show cx (d + 1) (.mk 6 g (-(u : Int)) []) = 88 :: (Lib.itoa (-(u : Int)) ++ [sgn g]) by simp [cx])
      have HB := hid hb0
      generalize sgn g = c at *
      clear hs hat hsl hn hts hb0 hneg0 hl hlr hg1 hg2
      go_enter Try.func65, Try.ntmps65
      go_wp2_with fail
      go_region_held3 (fun w' => Below (w.alloc (Obj.cells #[.int .i64 6, .int .i64 g, .int .i64 (-(u : Int)), .slice a 0 cap] 44)).heap.size (w.alloc (Obj.cells #[.int .i64 6, .int .i64 g, .int .i64 (-(u : Int)), .slice a 0 cap] 44)) w' ∧ w'.cell? ⟨w.heap.size, 0, none⟩ = some (.int .i64 6) ∧ w'.cell? ⟨w.heap.size, 1, none⟩ = some (.int .i64 g) ∧ w'.cell? ⟨w.heap.size, 2, none⟩ = some (.int .i64 (-(u : Int))) ∧ w'.cell? ⟨w.heap.size, 3, none⟩ = some (.slice a 0 cap))
        ((refine (fun hB => ⟨hB, cell_keep x0 hB, cell_keep x1 hB, cell_keep x2 hB, cell_keep x3 hB⟩ : Below (w.alloc (Obj.cells #[.int .i64 6, .int .i64 g, .int .i64 (-(u : Int)), .slice a 0 cap] 44)).heap.size (w.alloc (Obj.cells #[.int .i64 6, .int .i64 g, .int .i64 (-(u : Int)), .slice a 0 cap] 44)) _ → _) ?_; (first | exact below_drew _ | exact hk1 | exact hk2)))
        (first
          | (go_at_call 77; refine (HD.out _).mono ?_; rintro e w1 ⟨rfl, hy1⟩; have hk1 := below_trans (below_drew _) hy1)
          | (go_at_call 76; refine (HL.out _).mono ?_; rintro e w2 ⟨rfl, hy2⟩; have hk2 := below_trans hk1 hy2))
      go_wp2_with fail
      go_ret
      refine ⟨ret_s ?_, HB.out.trans (hk2.mono HB.out.size)⟩
      rw [HT.out, HN.out, Lib.itoa_neg u (by omega)]
      apply ByteArray.ext
      simp [ByteArray.data_append]
    · obtain ⟨u, rfl⟩ : ∃ u : Nat, l = (u : Int) := ⟨l.toNat, by omega⟩
      have q : u ≤ 99 := by omega
      have HD := hid (fun w0 => l18Dec_nat u (by omega) w0)
      have hlen := Lib.itoa_length_le (u : Int) (by omega) (by omega)
      rw [Lib.itoa_nonneg] at hlen
      obtain ⟨SN, hSN⟩ : ∃ S : ByteArray, S = ⟨(Lib.decDigits u).toArray⟩ := ⟨_, rfl⟩
      have ln : SN.size ≤ 21 := by rw [hSN]; exact hlen
      have HN := hid hSN
      rw [← hSN] at HD
      clear hSN hlen
      have hneg : ¬ ((u : Int) < 0) := by omega
      obtain ⟨a, cap, rfl⟩ := hsl.shape
      have hb0 : Below w.heap.size w (w.alloc (Obj.cells #[.int .i64 6, .int .i64 g, .int .i64 (u : Int), .slice a 0 cap] 44)) := (Below.refl _ _).alloc (Nat.le_refl _) _
      obtain ⟨x0, x1, x2, x3⟩ := box4 (Below.refl (w.alloc (Obj.cells #[.int .i64 6, .int .i64 g, .int .i64 (u : Int), .slice a 0 cap] 44)).heap.size (w.alloc (Obj.cells #[.int .i64 6, .int .i64 g, .int .i64 (u : Int), .slice a 0 cap] 44)))
      have HL := hid (fun w0 => l6Letter_at g ⟨by omega, hg2⟩ w0)
      have p11 : ¬ (9223372036854775807 < 1 + SN.size) := by omega
      have p21 : ¬ (9223372036854775807 < 1 + SN.size + 1) := by omega
      have p15 : ¬ (9223372036854775807 < 1 + 0 + SN.size) := by omega
      have p25 : ¬ (9223372036854775807 < 1 + 0 + SN.size + 1) := by omega
      have HT := hid (show cx (d + 1) (.mk 6 g (u : Int) []) = 88 :: (Lib.itoa (u : Int) ++ [sgn g]) by simp [cx])
      have HB := hid hb0
      generalize sgn g = c at *
      clear hs hat hsl hn hts hb0 hneg0 hl hlr hg1 hg2
      go_enter Try.func65, Try.ntmps65
      go_wp2_with fail
      go_region_held3 (fun w' => Below (w.alloc (Obj.cells #[.int .i64 6, .int .i64 g, .int .i64 (u : Int), .slice a 0 cap] 44)).heap.size (w.alloc (Obj.cells #[.int .i64 6, .int .i64 g, .int .i64 (u : Int), .slice a 0 cap] 44)) w' ∧ w'.cell? ⟨w.heap.size, 0, none⟩ = some (.int .i64 6) ∧ w'.cell? ⟨w.heap.size, 1, none⟩ = some (.int .i64 g) ∧ w'.cell? ⟨w.heap.size, 2, none⟩ = some (.int .i64 (u : Int)) ∧ w'.cell? ⟨w.heap.size, 3, none⟩ = some (.slice a 0 cap))
        ((refine (fun hB => ⟨hB, cell_keep x0 hB, cell_keep x1 hB, cell_keep x2 hB, cell_keep x3 hB⟩ : Below (w.alloc (Obj.cells #[.int .i64 6, .int .i64 g, .int .i64 (u : Int), .slice a 0 cap] 44)).heap.size (w.alloc (Obj.cells #[.int .i64 6, .int .i64 g, .int .i64 (u : Int), .slice a 0 cap] 44)) _ → _) ?_; (first | exact below_drew _ | exact hk1 | exact hk2)))
        (first
          | (go_at_call 77; refine (HD.out _).mono ?_; rintro e w1 ⟨rfl, hy1⟩; have hk1 := below_trans (below_drew _) hy1)
          | (go_at_call 76; refine (HL.out _).mono ?_; rintro e w2 ⟨rfl, hy2⟩; have hk2 := below_trans hk1 hy2))
      go_wp2_with fail
      go_ret
      refine ⟨ret_s ?_, HB.out.trans (hk2.mono HB.out.size)⟩
      rw [HT.out, HN.out, Lib.itoa_nonneg]
      apply ByteArray.ext
      simp [ByteArray.data_append]

theorem l6Text_any : ∀ d : Nat, CxC d
  | 0 => fun t v fp w _ hs _ => by simp [shpK] at hs
  | d + 1 => l6Text_succ d (l6Text_any d)
end Go.Proofs.Ytgekfnodmgkdaaa

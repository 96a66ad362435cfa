/- The program's writeCoercion: injections, projections, failures. -/
import Derived.Test.YtgekfnodmgkdaaaDoorFcW
namespace Go.Proofs.YtgekfnodmgkdaaaDoor
open Go.RowKit

set_option linter.unusedSimpArgs false in
set_option linter.unusedVariables false in
set_option maxRecDepth 100000 in
set_option maxHeartbeats 4000000 in
theorem wc_one4 (d : Nat) (ih : WcX d) (x : Co) (v : Value) (fp : List Nat) (B b : Nat) (acc : List UInt8) (w : World) (hd : d + 1 ≤ 9) (hs : shpK (d + 1) (.mk 4 0 0 [x]) = true) (hat : Co.At w (.mk 4 0 0 [x]) v fp) (hfp : ∀ x ∈ fp, x < B) (htab : Lib.TabBelow Tryd.prog B w "internal/strconv.uint64pow10" .u64 Lib.pow10Tab) (hBw : B ≤ w.heap.size) (hbw : b < w.heap.size) (hacc : acc.length + 60 * 2 ^ (d + 1) ≤ 1099511627776)
    (hI : Lib.IsBuilderF 83 5 B b (Lib.byteCells acc) w) : Calls Tryd.prog 62 #[.pointer (some ⟨b, 0, none⟩), v] w (Wrote B b acc (cx (d + 1) (.mk 4 0 0 [x])) w) := by
  have HIH := hid ih
  clear ih
  obtain ⟨s, rfl, hsl⟩ := Co.at_mk.1 hat
  obtain ⟨hn, hts⟩ := shpK_node hs
  obtain ⟨bb, o, cap, k1, g1, l1, n1, a1, c1, f1, rfl, hblt, d0, d1, d2, d3, hx1, hff, hcap⟩ := hsl.one
  have hbB : bb < B := hfp bb (by rw [hff]; simp)
  have HFX := hid (show ∀ z ∈ f1, z < B from fun z hz => hfp z (by rw [hff]; simp [hz]))
  have hb0 : Below B w (w.alloc (Obj.cells #[.int .i64 4, .int .i64 0, .int .i64 0, .slice (some ⟨bb, o, none⟩) 1 cap] 45)) := (Below.refl _ _).alloc hBw _
  have HB := hid hb0
  have HI0 := hid (hI.alloc (Obj.cells #[.int .i64 4, .int .i64 0, .int .i64 0, .slice (some ⟨bb, o, none⟩) 1 cap] 45))
  have HK := hid ((Lib.OthersKept.refl 5 (some b) w).alloc (Obj.cells #[.int .i64 4, .int .i64 0, .int .i64 0, .slice (some ⟨bb, o, none⟩) 1 cap] 45))
  have HB0 := hid (Below.refl B (w.alloc (Obj.cells #[.int .i64 4, .int .i64 0, .int .i64 0, .slice (some ⟨bb, o, none⟩) 1 cap] 45)))
  have HK0 := hid (Lib.OthersKept.refl 5 (some b) (w.alloc (Obj.cells #[.int .i64 4, .int .i64 0, .int .i64 0, .slice (some ⟨bb, o, none⟩) 1 cap] 45)))
  have HC := hid hacc
  have HP : Hid (2 ^ (d + 1) = 2 * 2 ^ d ∧ 0 < 2 ^ d) := hid ⟨by rw [Nat.pow_succ]; omega, Nat.pow_pos (by omega)⟩
  have HTAB := hid htab
  have HX := hid (hx1.belowB hb0 HFX.out)
  have HE := hid (And.intro (cell_keepB d0 hb0 hbB) (And.intro (cell_keepB d1 hb0 hbB) (And.intro (cell_keepB d2 hb0 hbB) (cell_keepB d3 hb0 hbB))))
  have HSX := hid (hts x (by simp))
  have HL := hid (And.intro (cx_len d x HSX.out) trivial)
  have HT := hid (show cx (d + 1) (.mk 4 0 0 [x]) = 33 :: cx d x by simp [cx])
  clear hs hat hsl hn hts hfp htab hacc hI hb0 hx1 hff d0 d1 d2 d3
  go_enter Tryd.func62, Tryd.ntmps62
  obtain ⟨x0, x1, x2, x3⟩ := okept_box4 HK0.out hbw
  have e0 := cell_keepB (HE.out.1) HB0.out hbB
  have e1 := cell_keepB (HE.out.2.1) HB0.out hbB
  have e2 := cell_keepB (HE.out.2.2.1) HB0.out hbB
  have e3 := cell_keepB (HE.out.2.2.2) HB0.out hbB
  go_wp2_with fail
  refine (write1 B b _ 33 _ HI0.out (by have := HC.out; have := HP.out; have := HL.out; simp <;> omega) (by have := HB.out.size; have := HB0.out.size; omega)).mono ?_
  rintro e wz ⟨rfl, hi, hb, hk⟩
  have HI1 := hid hi
  have HB1 := hid (HB0.out.trans hb)
  have HK1 := hid (HK0.out.trans hk)
  clear hi hb hk x0 x1 x2 x3 e0 e1 e2 e3 HI0 HB0 HK0
  obtain ⟨x0, x1, x2, x3⟩ := okept_box4 HK1.out hbw
  have e0 := cell_keepB (HE.out.1) HB1.out hbB
  have e1 := cell_keepB (HE.out.2.1) HB1.out hbB
  have e2 := cell_keepB (HE.out.2.2.1) HB1.out hbB
  have e3 := cell_keepB (HE.out.2.2.2) HB1.out hbB
  go_wp2_with fail
  refine (HIH.out x _ f1 B b _ _ (by omega) HSX.out (HX.out.belowB HB1.out HFX.out) HFX.out (HTAB.out.on (HB.out.trans HB1.out)) (by have := HB.out.size; have := HB1.out.size; omega) (by have := HB1.out.size; simp at this; omega) (by have := HC.out; have := HP.out; have := HL.out; simp <;> omega) HI1.out).mono ?_
  rintro e wz ⟨rfl, hi, hb, hk⟩
  have HI2 := hid hi
  have HB2 := hid (HB1.out.trans hb)
  have HK2 := hid (HK1.out.trans hk)
  clear hi hb hk x0 x1 x2 x3 e0 e1 e2 e3 HI1 HB1 HK1
  go_wp2_with fail
  have HIF := hid (show Lib.IsBuilderF 83 5 B b (Lib.byteCells (acc ++ cx (d + 1) (.mk 4 0 0 [x]))) _ from (show ((acc ++ [33]) ++ cx d x) = acc ++ cx (d + 1) (.mk 4 0 0 [x]) by first | (rw [HT.out]; done) | (rw [HT.out]; simp)) ▸ HI2.out)
  exact bodyPost_ret (v := .tuple #[]) (by simp [results, Tryd.results62, go_sem]) rfl ⟨rfl, HIF.out, HB.out.trans HB2.out, HK.out.trans HK2.out⟩

set_option linter.unusedSimpArgs false in
set_option linter.unusedVariables false in
set_option maxRecDepth 100000 in
set_option maxHeartbeats 4000000 in
theorem wc_one5 (d : Nat) (ih : WcX d) (x : Co) (l : Int) (v : Value) (fp : List Nat) (B b : Nat) (acc : List UInt8) (w : World) (hd : d + 1 ≤ 9) (hs : shpK (d + 1) (.mk 5 0 l [x]) = true) (hat : Co.At w (.mk 5 0 l [x]) v fp) (hfp : ∀ x ∈ fp, x < B) (htab : Lib.TabBelow Tryd.prog B w "internal/strconv.uint64pow10" .u64 Lib.pow10Tab) (hBw : B ≤ w.heap.size) (hbw : b < w.heap.size) (hacc : acc.length + 60 * 2 ^ (d + 1) ≤ 1099511627776)
    (hI : Lib.IsBuilderF 83 5 B b (Lib.byteCells acc) w) : Calls Tryd.prog 62 #[.pointer (some ⟨b, 0, none⟩), v] w (Wrote B b acc (cx (d + 1) (.mk 5 0 l [x])) w) := by
  have HIH := hid ih
  clear ih
  obtain ⟨s, rfl, hsl⟩ := Co.at_mk.1 hat
  obtain ⟨hn, hts⟩ := shpK_node hs
  obtain ⟨bb, o, cap, k1, g1, l1, n1, a1, c1, f1, rfl, hblt, d0, d1, d2, d3, hx1, hff, hcap⟩ := hsl.one
  have hbB : bb < B := hfp bb (by rw [hff]; simp)
  have HFX := hid (show ∀ z ∈ f1, z < B from fun z hz => hfp z (by rw [hff]; simp [hz]))
  have hb0 : Below B w (w.alloc (Obj.cells #[.int .i64 5, .int .i64 0, .int .i64 l, .slice (some ⟨bb, o, none⟩) 1 cap] 45)) := (Below.refl _ _).alloc hBw _
  have HB := hid hb0
  have HI0 := hid (hI.alloc (Obj.cells #[.int .i64 5, .int .i64 0, .int .i64 l, .slice (some ⟨bb, o, none⟩) 1 cap] 45))
  have HK := hid ((Lib.OthersKept.refl 5 (some b) w).alloc (Obj.cells #[.int .i64 5, .int .i64 0, .int .i64 l, .slice (some ⟨bb, o, none⟩) 1 cap] 45))
  have HB0 := hid (Below.refl B (w.alloc (Obj.cells #[.int .i64 5, .int .i64 0, .int .i64 l, .slice (some ⟨bb, o, none⟩) 1 cap] 45)))
  have HK0 := hid (Lib.OthersKept.refl 5 (some b) (w.alloc (Obj.cells #[.int .i64 5, .int .i64 0, .int .i64 l, .slice (some ⟨bb, o, none⟩) 1 cap] 45)))
  have HC := hid hacc
  have HP : Hid (2 ^ (d + 1) = 2 * 2 ^ d ∧ 0 < 2 ^ d) := hid ⟨by rw [Nat.pow_succ]; omega, Nat.pow_pos (by omega)⟩
  have HTAB := hid htab
  have HX := hid (hx1.belowB hb0 HFX.out)
  have HE := hid (And.intro (cell_keepB d0 hb0 hbB) (And.intro (cell_keepB d1 hb0 hbB) (And.intro (cell_keepB d2 hb0 hbB) (cell_keepB d3 hb0 hbB))))
  have HSX := hid (hts x (by simp))
  have hlr : -99 ≤ l ∧ l ≤ 99 := by
    rcases nodeC_cases hn with ⟨h, _⟩ | ⟨h, _⟩ | ⟨h, _⟩ | ⟨h, _⟩ | ⟨_, _, hl, _⟩ | ⟨h, _⟩
    all_goals first | exact isLb_rng' hl | omega
  obtain ⟨SN, hSN⟩ : ∃ S : ByteArray, S = ⟨(Lib.itoa l).toArray⟩ := ⟨_, rfl⟩
  have HIT := hid (fun w0 h0 => itoaAny l (by omega) (by omega) w0 h0)
  rw [← hSN] at HIT
  have HSN := hid hSN
  have ln : SN.size ≤ 21 := by rw [hSN]; exact itoa_len' hlr
  have p1 : ¬ (9223372036854775807 < 1 + SN.size) := by omega
  have p2 : ¬ (9223372036854775807 < 1 + SN.size + 1) := by omega
  clear hSN
  have HL := hid (And.intro (cx_len d x HSX.out) (itoa_len' hlr))
  have HT := hid (show cx (d + 1) (.mk 5 0 l [x]) = 35 :: (Lib.itoa l ++ (46 :: cx d x)) by simp [cx])
  clear hs hat hsl hn hts hfp htab hacc hI hb0 hx1 hff d0 d1 d2 d3 hlr
  go_enter Tryd.func62, Tryd.ntmps62
  obtain ⟨x0, x1, x2, x3⟩ := okept_box4 HK0.out hbw
  have e0 := cell_keepB (HE.out.1) HB0.out hbB
  have e1 := cell_keepB (HE.out.2.1) HB0.out hbB
  have e2 := cell_keepB (HE.out.2.2.1) HB0.out hbB
  have e3 := cell_keepB (HE.out.2.2.2) HB0.out hbB
  go_wp2_with fail
  refine (HIT.out _ ((HTAB.out.on (HB.out.trans HB0.out)).here)).mono ?_
  rintro e wt ⟨rfl, kq, os, rfl⟩
  have hbt := Lib.below_grow (B := (w.alloc (Obj.cells #[.int .i64 5, .int .i64 0, .int .i64 l, .slice (some ⟨bb, o, none⟩) 1 cap] 45)).heap.size) (w.alloc (Obj.cells #[.int .i64 5, .int .i64 0, .int .i64 l, .slice (some ⟨bb, o, none⟩) 1 cap] 45)) (Nat.le_refl _) kq os
  have HIU := hid (isb_newK HI0.out hbt)
  have HKU := hid (HK0.out.trans (okept_newK hbt))
  have HBU := hid (HB0.out.trans (hbt.mono (by have := HB.out.size; have := HB0.out.size; omega)))
  clear hbt x0 x1 x2 x3 e0 e1 e2 e3
  generalize Sort.grow ((w.alloc (Obj.cells #[.int .i64 5, .int .i64 0, .int .i64 l, .slice (some ⟨bb, o, none⟩) 1 cap] 45)).drewN kq) os = wt at *
  obtain ⟨x0, x1, x2, x3⟩ := okept_box4 HKU.out hbw
  go_wp2_with fail
  refine (writeB B b _ _ _ HIU.out (by have := HC.out; have := HP.out; have := HL.out; have hz : ∀ c : UInt8, (⟨#[c]⟩ : ByteArray).size = 1 := fun _ => rfl; simp [ByteArray.size_append, hz] <;> omega) (by have := HB.out.size; have := HBU.out.size; omega)).mono ?_
  rintro e wz ⟨⟨r9, rfl⟩, hi0, hb, hk⟩
  have hi : Lib.IsBuilderF 83 5 B b (Lib.byteCells (acc ++ ([35] ++ Lib.itoa l ++ [46]))) wz := by
    have h2 := hi0
    rw [HSN.out] at h2
    simp only [ByteArray.data_append, Array.toList_append] at h2
    exact h2
  clear hi0
  have HI1 := hid hi
  have HB1 := hid (HBU.out.trans hb)
  have HK1 := hid (HKU.out.trans hk)
  clear hi hb hk x0 x1 x2 x3 HI0 HB0 HK0 HIU HBU HKU
  obtain ⟨x0, x1, x2, x3⟩ := okept_box4 HK1.out hbw
  have e0 := cell_keepB (HE.out.1) HB1.out hbB
  have e1 := cell_keepB (HE.out.2.1) HB1.out hbB
  have e2 := cell_keepB (HE.out.2.2.1) HB1.out hbB
  have e3 := cell_keepB (HE.out.2.2.2) HB1.out hbB
  go_wp2_with fail
  refine (HIH.out x _ f1 B b _ _ (by omega) HSX.out (HX.out.belowB HB1.out HFX.out) HFX.out (HTAB.out.on (HB.out.trans HB1.out)) (by have := HB.out.size; have := HB1.out.size; omega) (by have := HB1.out.size; simp at this; omega) (by have := HC.out; have := HP.out; have := HL.out; simp <;> omega) HI1.out).mono ?_
  rintro e wz ⟨rfl, hi, hb, hk⟩
  have HI2 := hid hi
  have HB2 := hid (HB1.out.trans hb)
  have HK2 := hid (HK1.out.trans hk)
  clear hi hb hk x0 x1 x2 x3 e0 e1 e2 e3 HI1 HB1 HK1
  go_wp2_with fail
  have HIF := hid (show Lib.IsBuilderF 83 5 B b (Lib.byteCells (acc ++ cx (d + 1) (.mk 5 0 l [x]))) _ from (show ((acc ++ ([35] ++ Lib.itoa l ++ [46])) ++ cx d x) = acc ++ cx (d + 1) (.mk 5 0 l [x]) by first | (rw [HT.out]; done) | (rw [HT.out]; simp)) ▸ HI2.out)
  exact bodyPost_ret (v := .tuple #[]) (by simp [results, Tryd.results62, go_sem]) rfl ⟨rfl, HIF.out, HB.out.trans HB2.out, HK.out.trans HK2.out⟩

set_option linter.unusedSimpArgs false in
set_option linter.unusedVariables false in
set_option maxRecDepth 100000 in
set_option maxHeartbeats 4000000 in
theorem wc_fail2 (d : Nat) (ih : WcX d) (l : Int) (v : Value) (fp : List Nat) (B b : Nat) (acc : List UInt8) (w : World) (hd : d + 1 ≤ 9) (hs : shpK (d + 1) (.mk 6 2 l []) = true) (hat : Co.At w (.mk 6 2 l []) v fp) (hfp : ∀ x ∈ fp, x < B) (htab : Lib.TabBelow Tryd.prog B w "internal/strconv.uint64pow10" .u64 Lib.pow10Tab) (hBw : B ≤ w.heap.size) (hbw : b < w.heap.size) (hacc : acc.length + 60 * 2 ^ (d + 1) ≤ 1099511627776)
    (hI : Lib.IsBuilderF 83 5 B b (Lib.byteCells acc) w) : Calls Tryd.prog 62 #[.pointer (some ⟨b, 0, none⟩), v] w (Wrote B b acc (cx (d + 1) (.mk 6 2 l [])) w) := by
  have HIH := hid ih
  clear ih
  obtain ⟨s, rfl, hsl⟩ := Co.at_mk.1 hat
  obtain ⟨hn, hts⟩ := shpK_node hs
  obtain ⟨a, cap, rfl⟩ := hsl.shape
  have hlr : -99 ≤ l ∧ l ≤ 99 := by
    rcases nodeC_cases hn with ⟨h, _⟩ | ⟨h, _⟩ | ⟨h, _⟩ | ⟨h, _⟩ | ⟨h, _⟩ | ⟨_, _, hl, _⟩
    all_goals first | exact isLb_rng' hl | omega
  have hb0 : Below B w (w.alloc (Obj.cells #[.int .i64 6, .int .i64 2, .int .i64 l, .slice a 0 cap] 45)) := (Below.refl _ _).alloc hBw _
  have HB := hid hb0
  have HI0 := hid (hI.alloc (Obj.cells #[.int .i64 6, .int .i64 2, .int .i64 l, .slice a 0 cap] 45))
  have HK := hid ((Lib.OthersKept.refl 5 (some b) w).alloc (Obj.cells #[.int .i64 6, .int .i64 2, .int .i64 l, .slice a 0 cap] 45))
  have HB0 := hid (Below.refl B (w.alloc (Obj.cells #[.int .i64 6, .int .i64 2, .int .i64 l, .slice a 0 cap] 45)))
  have HK0 := hid (Lib.OthersKept.refl 5 (some b) (w.alloc (Obj.cells #[.int .i64 6, .int .i64 2, .int .i64 l, .slice a 0 cap] 45)))
  have HC := hid hacc
  have HP : Hid (2 ^ (d + 1) = 2 * 2 ^ d ∧ 0 < 2 ^ d) := hid ⟨by rw [Nat.pow_succ]; omega, Nat.pow_pos (by omega)⟩
  have HTAB := hid htab
  obtain ⟨SN, hSN⟩ : ∃ S : ByteArray, S = ⟨(Lib.itoa l).toArray⟩ := ⟨_, rfl⟩
  have HIT := hid (fun w0 h0 => itoaAny l (by omega) (by omega) w0 h0)
  rw [← hSN] at HIT
  have HSN := hid hSN
  have ln : SN.size ≤ 21 := by rw [hSN]; exact itoa_len' hlr
  have p1 : ¬ (9223372036854775807 < 1 + SN.size) := by omega
  have HL := hid (itoa_len' hlr)
  have HT := hid (show cx (d + 1) (.mk 6 2 l []) = 88 :: (Lib.itoa l ++ [73]) by simp [cx, sgn])
  clear hs hat hsl hn hts hfp htab hacc hI hb0 hSN hlr
  go_enter Tryd.func62, Tryd.ntmps62
  obtain ⟨x0, x1, x2, x3⟩ := okept_box4 HK0.out hbw
  go_wp2_with fail
  refine (HIT.out _ ((HTAB.out.on (HB.out.trans HB0.out)).here)).mono ?_
  rintro e wt ⟨rfl, kq, os, rfl⟩
  have hbt := Lib.below_grow (B := (w.alloc (Obj.cells #[.int .i64 6, .int .i64 2, .int .i64 l, .slice a 0 cap] 45)).heap.size) (w.alloc (Obj.cells #[.int .i64 6, .int .i64 2, .int .i64 l, .slice a 0 cap] 45)) (Nat.le_refl _) kq os
  have HIU := hid (isb_newK HI0.out hbt)
  have HKU := hid (HK0.out.trans (okept_newK hbt))
  have HBU := hid (HB0.out.trans (hbt.mono (by have := HB.out.size; have := HB0.out.size; omega)))
  clear hbt x0 x1 x2 x3
  generalize Sort.grow ((w.alloc (Obj.cells #[.int .i64 6, .int .i64 2, .int .i64 l, .slice a 0 cap] 45)).drewN kq) os = wt at *
  obtain ⟨x0, x1, x2, x3⟩ := okept_box4 HKU.out hbw
  go_wp2_with fail
  refine (writeB B b _ _ _ HIU.out (by have := HC.out; have := HP.out; have := HL.out; have hz : ∀ c : UInt8, (⟨#[c]⟩ : ByteArray).size = 1 := fun _ => rfl; simp [ByteArray.size_append, hz] <;> omega) (by have := HB.out.size; have := HBU.out.size; omega)).mono ?_
  rintro e wz ⟨⟨r9, rfl⟩, hi0, hb, hk⟩
  have hi : Lib.IsBuilderF 83 5 B b (Lib.byteCells (acc ++ ([88] ++ Lib.itoa l))) wz := by
    have h2 := hi0
    rw [HSN.out] at h2
    simp only [ByteArray.data_append, Array.toList_append] at h2
    exact h2
  clear hi0
  have HI1 := hid hi
  have HB1 := hid (HBU.out.trans hb)
  have HK1 := hid (HKU.out.trans hk)
  clear hi hb hk x0 x1 x2 x3 HI0 HB0 HK0 HIU HBU HKU
  obtain ⟨x0, x1, x2, x3⟩ := okept_box4 HK1.out hbw
  go_wp2_with fail
  refine (write1 B b _ 73 _ HI1.out (by have := HC.out; have := HP.out; have := HL.out; simp <;> omega) (by have := HB.out.size; have := HB1.out.size; omega)).mono ?_
  rintro e wz ⟨rfl, hi, hb, hk⟩
  have HI2 := hid hi
  have HB2 := hid (HB1.out.trans hb)
  have HK2 := hid (HK1.out.trans hk)
  clear hi hb hk x0 x1 x2 x3 HI1 HB1 HK1
  go_wp2_with fail
  have HIF := hid (show Lib.IsBuilderF 83 5 B b (Lib.byteCells (acc ++ cx (d + 1) (.mk 6 2 l []))) _ from (show ((acc ++ ([88] ++ Lib.itoa l)) ++ [73]) = acc ++ cx (d + 1) (.mk 6 2 l []) by first | (rw [HT.out]; done) | (rw [HT.out]; simp)) ▸ HI2.out)
  exact bodyPost_ret (v := .tuple #[]) (by simp [results, Tryd.results62, go_sem]) rfl ⟨rfl, HIF.out, HB.out.trans HB2.out, HK.out.trans HK2.out⟩

set_option linter.unusedSimpArgs false in
set_option linter.unusedVariables false in
set_option maxRecDepth 100000 in
set_option maxHeartbeats 4000000 in
theorem wc_fail3 (d : Nat) (ih : WcX d) (l : Int) (v : Value) (fp : List Nat) (B b : Nat) (acc : List UInt8) (w : World) (hd : d + 1 ≤ 9) (hs : shpK (d + 1) (.mk 6 3 l []) = true) (hat : Co.At w (.mk 6 3 l []) v fp) (hfp : ∀ x ∈ fp, x < B) (htab : Lib.TabBelow Tryd.prog B w "internal/strconv.uint64pow10" .u64 Lib.pow10Tab) (hBw : B ≤ w.heap.size) (hbw : b < w.heap.size) (hacc : acc.length + 60 * 2 ^ (d + 1) ≤ 1099511627776)
    (hI : Lib.IsBuilderF 83 5 B b (Lib.byteCells acc) w) : Calls Tryd.prog 62 #[.pointer (some ⟨b, 0, none⟩), v] w (Wrote B b acc (cx (d + 1) (.mk 6 3 l [])) w) := by
  have HIH := hid ih
  clear ih
  obtain ⟨s, rfl, hsl⟩ := Co.at_mk.1 hat
  obtain ⟨hn, hts⟩ := shpK_node hs
  obtain ⟨a, cap, rfl⟩ := hsl.shape
  have hlr : -99 ≤ l ∧ l ≤ 99 := by
    rcases nodeC_cases hn with ⟨h, _⟩ | ⟨h, _⟩ | ⟨h, _⟩ | ⟨h, _⟩ | ⟨h, _⟩ | ⟨_, _, hl, _⟩
    all_goals first | exact isLb_rng' hl | omega
  have hb0 : Below B w (w.alloc (Obj.cells #[.int .i64 6, .int .i64 3, .int .i64 l, .slice a 0 cap] 45)) := (Below.refl _ _).alloc hBw _
  have HB := hid hb0
  have HI0 := hid (hI.alloc (Obj.cells #[.int .i64 6, .int .i64 3, .int .i64 l, .slice a 0 cap] 45))
  have HK := hid ((Lib.OthersKept.refl 5 (some b) w).alloc (Obj.cells #[.int .i64 6, .int .i64 3, .int .i64 l, .slice a 0 cap] 45))
  have HB0 := hid (Below.refl B (w.alloc (Obj.cells #[.int .i64 6, .int .i64 3, .int .i64 l, .slice a 0 cap] 45)))
  have HK0 := hid (Lib.OthersKept.refl 5 (some b) (w.alloc (Obj.cells #[.int .i64 6, .int .i64 3, .int .i64 l, .slice a 0 cap] 45)))
  have HC := hid hacc
  have HP : Hid (2 ^ (d + 1) = 2 * 2 ^ d ∧ 0 < 2 ^ d) := hid ⟨by rw [Nat.pow_succ]; omega, Nat.pow_pos (by omega)⟩
  have HTAB := hid htab
  obtain ⟨SN, hSN⟩ : ∃ S : ByteArray, S = ⟨(Lib.itoa l).toArray⟩ := ⟨_, rfl⟩
  have HIT := hid (fun w0 h0 => itoaAny l (by omega) (by omega) w0 h0)
  rw [← hSN] at HIT
  have HSN := hid hSN
  have ln : SN.size ≤ 21 := by rw [hSN]; exact itoa_len' hlr
  have p1 : ¬ (9223372036854775807 < 1 + SN.size) := by omega
  have HL := hid (itoa_len' hlr)
  have HT := hid (show cx (d + 1) (.mk 6 3 l []) = 88 :: (Lib.itoa l ++ [66]) by simp [cx, sgn])
  clear hs hat hsl hn hts hfp htab hacc hI hb0 hSN hlr
  go_enter Tryd.func62, Tryd.ntmps62
  obtain ⟨x0, x1, x2, x3⟩ := okept_box4 HK0.out hbw
  go_wp2_with fail
  refine (HIT.out _ ((HTAB.out.on (HB.out.trans HB0.out)).here)).mono ?_
  rintro e wt ⟨rfl, kq, os, rfl⟩
  have hbt := Lib.below_grow (B := (w.alloc (Obj.cells #[.int .i64 6, .int .i64 3, .int .i64 l, .slice a 0 cap] 45)).heap.size) (w.alloc (Obj.cells #[.int .i64 6, .int .i64 3, .int .i64 l, .slice a 0 cap] 45)) (Nat.le_refl _) kq os
  have HIU := hid (isb_newK HI0.out hbt)
  have HKU := hid (HK0.out.trans (okept_newK hbt))
  have HBU := hid (HB0.out.trans (hbt.mono (by have := HB.out.size; have := HB0.out.size; omega)))
  clear hbt x0 x1 x2 x3
  generalize Sort.grow ((w.alloc (Obj.cells #[.int .i64 6, .int .i64 3, .int .i64 l, .slice a 0 cap] 45)).drewN kq) os = wt at *
  obtain ⟨x0, x1, x2, x3⟩ := okept_box4 HKU.out hbw
  go_wp2_with fail
  refine (writeB B b _ _ _ HIU.out (by have := HC.out; have := HP.out; have := HL.out; have hz : ∀ c : UInt8, (⟨#[c]⟩ : ByteArray).size = 1 := fun _ => rfl; simp [ByteArray.size_append, hz] <;> omega) (by have := HB.out.size; have := HBU.out.size; omega)).mono ?_
  rintro e wz ⟨⟨r9, rfl⟩, hi0, hb, hk⟩
  have hi : Lib.IsBuilderF 83 5 B b (Lib.byteCells (acc ++ ([88] ++ Lib.itoa l))) wz := by
    have h2 := hi0
    rw [HSN.out] at h2
    simp only [ByteArray.data_append, Array.toList_append] at h2
    exact h2
  clear hi0
  have HI1 := hid hi
  have HB1 := hid (HBU.out.trans hb)
  have HK1 := hid (HKU.out.trans hk)
  clear hi hb hk x0 x1 x2 x3 HI0 HB0 HK0 HIU HBU HKU
  obtain ⟨x0, x1, x2, x3⟩ := okept_box4 HK1.out hbw
  go_wp2_with fail
  refine (write1 B b _ 66 _ HI1.out (by have := HC.out; have := HP.out; have := HL.out; simp <;> omega) (by have := HB.out.size; have := HB1.out.size; omega)).mono ?_
  rintro e wz ⟨rfl, hi, hb, hk⟩
  have HI2 := hid hi
  have HB2 := hid (HB1.out.trans hb)
  have HK2 := hid (HK1.out.trans hk)
  clear hi hb hk x0 x1 x2 x3 HI1 HB1 HK1
  go_wp2_with fail
  have HIF := hid (show Lib.IsBuilderF 83 5 B b (Lib.byteCells (acc ++ cx (d + 1) (.mk 6 3 l []))) _ from (show ((acc ++ ([88] ++ Lib.itoa l)) ++ [66]) = acc ++ cx (d + 1) (.mk 6 3 l []) by first | (rw [HT.out]; done) | (rw [HT.out]; simp)) ▸ HI2.out)
  exact bodyPost_ret (v := .tuple #[]) (by simp [results, Tryd.results62, go_sem]) rfl ⟨rfl, HIF.out, HB.out.trans HB2.out, HK.out.trans HK2.out⟩

set_option linter.unusedSimpArgs false in
set_option linter.unusedVariables false in
set_option maxRecDepth 100000 in
set_option maxHeartbeats 4000000 in
theorem wc_fail4 (d : Nat) (ih : WcX d) (l : Int) (v : Value) (fp : List Nat) (B b : Nat) (acc : List UInt8) (w : World) (hd : d + 1 ≤ 9) (hs : shpK (d + 1) (.mk 6 4 l []) = true) (hat : Co.At w (.mk 6 4 l []) v fp) (hfp : ∀ x ∈ fp, x < B) (htab : Lib.TabBelow Tryd.prog B w "internal/strconv.uint64pow10" .u64 Lib.pow10Tab) (hBw : B ≤ w.heap.size) (hbw : b < w.heap.size) (hacc : acc.length + 60 * 2 ^ (d + 1) ≤ 1099511627776)
    (hI : Lib.IsBuilderF 83 5 B b (Lib.byteCells acc) w) : Calls Tryd.prog 62 #[.pointer (some ⟨b, 0, none⟩), v] w (Wrote B b acc (cx (d + 1) (.mk 6 4 l [])) w) := by
  have HIH := hid ih
  clear ih
  obtain ⟨s, rfl, hsl⟩ := Co.at_mk.1 hat
  obtain ⟨hn, hts⟩ := shpK_node hs
  obtain ⟨a, cap, rfl⟩ := hsl.shape
  have hlr : -99 ≤ l ∧ l ≤ 99 := by
    rcases nodeC_cases hn with ⟨h, _⟩ | ⟨h, _⟩ | ⟨h, _⟩ | ⟨h, _⟩ | ⟨h, _⟩ | ⟨_, _, hl, _⟩
    all_goals first | exact isLb_rng' hl | omega
  have hb0 : Below B w (w.alloc (Obj.cells #[.int .i64 6, .int .i64 4, .int .i64 l, .slice a 0 cap] 45)) := (Below.refl _ _).alloc hBw _
  have HB := hid hb0
  have HI0 := hid (hI.alloc (Obj.cells #[.int .i64 6, .int .i64 4, .int .i64 l, .slice a 0 cap] 45))
  have HK := hid ((Lib.OthersKept.refl 5 (some b) w).alloc (Obj.cells #[.int .i64 6, .int .i64 4, .int .i64 l, .slice a 0 cap] 45))
  have HB0 := hid (Below.refl B (w.alloc (Obj.cells #[.int .i64 6, .int .i64 4, .int .i64 l, .slice a 0 cap] 45)))
  have HK0 := hid (Lib.OthersKept.refl 5 (some b) (w.alloc (Obj.cells #[.int .i64 6, .int .i64 4, .int .i64 l, .slice a 0 cap] 45)))
  have HC := hid hacc
  have HP : Hid (2 ^ (d + 1) = 2 * 2 ^ d ∧ 0 < 2 ^ d) := hid ⟨by rw [Nat.pow_succ]; omega, Nat.pow_pos (by omega)⟩
  have HTAB := hid htab
  obtain ⟨SN, hSN⟩ : ∃ S : ByteArray, S = ⟨(Lib.itoa l).toArray⟩ := ⟨_, rfl⟩
  have HIT := hid (fun w0 h0 => itoaAny l (by omega) (by omega) w0 h0)
  rw [← hSN] at HIT
  have HSN := hid hSN
  have ln : SN.size ≤ 21 := by rw [hSN]; exact itoa_len' hlr
  have p1 : ¬ (9223372036854775807 < 1 + SN.size) := by omega
  have HL := hid (itoa_len' hlr)
  have HT := hid (show cx (d + 1) (.mk 6 4 l []) = 88 :: (Lib.itoa l ++ [62]) by simp [cx, sgn])
  clear hs hat hsl hn hts hfp htab hacc hI hb0 hSN hlr
  go_enter Tryd.func62, Tryd.ntmps62
  obtain ⟨x0, x1, x2, x3⟩ := okept_box4 HK0.out hbw
  go_wp2_with fail
  refine (HIT.out _ ((HTAB.out.on (HB.out.trans HB0.out)).here)).mono ?_
  rintro e wt ⟨rfl, kq, os, rfl⟩
  have hbt := Lib.below_grow (B := (w.alloc (Obj.cells #[.int .i64 6, .int .i64 4, .int .i64 l, .slice a 0 cap] 45)).heap.size) (w.alloc (Obj.cells #[.int .i64 6, .int .i64 4, .int .i64 l, .slice a 0 cap] 45)) (Nat.le_refl _) kq os
  have HIU := hid (isb_newK HI0.out hbt)
  have HKU := hid (HK0.out.trans (okept_newK hbt))
  have HBU := hid (HB0.out.trans (hbt.mono (by have := HB.out.size; have := HB0.out.size; omega)))
  clear hbt x0 x1 x2 x3
  generalize Sort.grow ((w.alloc (Obj.cells #[.int .i64 6, .int .i64 4, .int .i64 l, .slice a 0 cap] 45)).drewN kq) os = wt at *
  obtain ⟨x0, x1, x2, x3⟩ := okept_box4 HKU.out hbw
  go_wp2_with fail
  refine (writeB B b _ _ _ HIU.out (by have := HC.out; have := HP.out; have := HL.out; have hz : ∀ c : UInt8, (⟨#[c]⟩ : ByteArray).size = 1 := fun _ => rfl; simp [ByteArray.size_append, hz] <;> omega) (by have := HB.out.size; have := HBU.out.size; omega)).mono ?_
  rintro e wz ⟨⟨r9, rfl⟩, hi0, hb, hk⟩
  have hi : Lib.IsBuilderF 83 5 B b (Lib.byteCells (acc ++ ([88] ++ Lib.itoa l))) wz := by
    have h2 := hi0
    rw [HSN.out] at h2
    simp only [ByteArray.data_append, Array.toList_append] at h2
    exact h2
  clear hi0
  have HI1 := hid hi
  have HB1 := hid (HBU.out.trans hb)
  have HK1 := hid (HKU.out.trans hk)
  clear hi hb hk x0 x1 x2 x3 HI0 HB0 HK0 HIU HBU HKU
  obtain ⟨x0, x1, x2, x3⟩ := okept_box4 HK1.out hbw
  go_wp2_with fail
  refine (write1 B b _ 62 _ HI1.out (by have := HC.out; have := HP.out; have := HL.out; simp <;> omega) (by have := HB.out.size; have := HB1.out.size; omega)).mono ?_
  rintro e wz ⟨rfl, hi, hb, hk⟩
  have HI2 := hid hi
  have HB2 := hid (HB1.out.trans hb)
  have HK2 := hid (HK1.out.trans hk)
  clear hi hb hk x0 x1 x2 x3 HI1 HB1 HK1
  go_wp2_with fail
  have HIF := hid (show Lib.IsBuilderF 83 5 B b (Lib.byteCells (acc ++ cx (d + 1) (.mk 6 4 l []))) _ from (show ((acc ++ ([88] ++ Lib.itoa l)) ++ [62]) = acc ++ cx (d + 1) (.mk 6 4 l []) by first | (rw [HT.out]; done) | (rw [HT.out]; simp)) ▸ HI2.out)
  exact bodyPost_ret (v := .tuple #[]) (by simp [results, Tryd.results62, go_sem]) rfl ⟨rfl, HIF.out, HB.out.trans HB2.out, HK.out.trans HK2.out⟩

set_option linter.unusedSimpArgs false in
set_option linter.unusedVariables false in
set_option maxRecDepth 100000 in
set_option maxHeartbeats 4000000 in
theorem wc_fail5 (d : Nat) (ih : WcX d) (l : Int) (v : Value) (fp : List Nat) (B b : Nat) (acc : List UInt8) (w : World) (hd : d + 1 ≤ 9) (hs : shpK (d + 1) (.mk 6 5 l []) = true) (hat : Co.At w (.mk 6 5 l []) v fp) (hfp : ∀ x ∈ fp, x < B) (htab : Lib.TabBelow Tryd.prog B w "internal/strconv.uint64pow10" .u64 Lib.pow10Tab) (hBw : B ≤ w.heap.size) (hbw : b < w.heap.size) (hacc : acc.length + 60 * 2 ^ (d + 1) ≤ 1099511627776)
    (hI : Lib.IsBuilderF 83 5 B b (Lib.byteCells acc) w) : Calls Tryd.prog 62 #[.pointer (some ⟨b, 0, none⟩), v] w (Wrote B b acc (cx (d + 1) (.mk 6 5 l [])) w) := by
  have HIH := hid ih
  clear ih
  obtain ⟨s, rfl, hsl⟩ := Co.at_mk.1 hat
  obtain ⟨hn, hts⟩ := shpK_node hs
  obtain ⟨a, cap, rfl⟩ := hsl.shape
  have hlr : -99 ≤ l ∧ l ≤ 99 := by
    rcases nodeC_cases hn with ⟨h, _⟩ | ⟨h, _⟩ | ⟨h, _⟩ | ⟨h, _⟩ | ⟨h, _⟩ | ⟨_, _, hl, _⟩
    all_goals first | exact isLb_rng' hl | omega
  have hb0 : Below B w (w.alloc (Obj.cells #[.int .i64 6, .int .i64 5, .int .i64 l, .slice a 0 cap] 45)) := (Below.refl _ _).alloc hBw _
  have HB := hid hb0
  have HI0 := hid (hI.alloc (Obj.cells #[.int .i64 6, .int .i64 5, .int .i64 l, .slice a 0 cap] 45))
  have HK := hid ((Lib.OthersKept.refl 5 (some b) w).alloc (Obj.cells #[.int .i64 6, .int .i64 5, .int .i64 l, .slice a 0 cap] 45))
  have HB0 := hid (Below.refl B (w.alloc (Obj.cells #[.int .i64 6, .int .i64 5, .int .i64 l, .slice a 0 cap] 45)))
  have HK0 := hid (Lib.OthersKept.refl 5 (some b) (w.alloc (Obj.cells #[.int .i64 6, .int .i64 5, .int .i64 l, .slice a 0 cap] 45)))
  have HC := hid hacc
  have HP : Hid (2 ^ (d + 1) = 2 * 2 ^ d ∧ 0 < 2 ^ d) := hid ⟨by rw [Nat.pow_succ]; omega, Nat.pow_pos (by omega)⟩
  have HTAB := hid htab
  obtain ⟨SN, hSN⟩ : ∃ S : ByteArray, S = ⟨(Lib.itoa l).toArray⟩ := ⟨_, rfl⟩
  have HIT := hid (fun w0 h0 => itoaAny l (by omega) (by omega) w0 h0)
  rw [← hSN] at HIT
  have HSN := hid hSN
  have ln : SN.size ≤ 21 := by rw [hSN]; exact itoa_len' hlr
  have p1 : ¬ (9223372036854775807 < 1 + SN.size) := by omega
  have HL := hid (itoa_len' hlr)
  have HT := hid (show cx (d + 1) (.mk 6 5 l []) = 88 :: (Lib.itoa l ++ [42]) by simp [cx, sgn])
  clear hs hat hsl hn hts hfp htab hacc hI hb0 hSN hlr
  go_enter Tryd.func62, Tryd.ntmps62
  obtain ⟨x0, x1, x2, x3⟩ := okept_box4 HK0.out hbw
  go_wp2_with fail
  refine (HIT.out _ ((HTAB.out.on (HB.out.trans HB0.out)).here)).mono ?_
  rintro e wt ⟨rfl, kq, os, rfl⟩
  have hbt := Lib.below_grow (B := (w.alloc (Obj.cells #[.int .i64 6, .int .i64 5, .int .i64 l, .slice a 0 cap] 45)).heap.size) (w.alloc (Obj.cells #[.int .i64 6, .int .i64 5, .int .i64 l, .slice a 0 cap] 45)) (Nat.le_refl _) kq os
  have HIU := hid (isb_newK HI0.out hbt)
  have HKU := hid (HK0.out.trans (okept_newK hbt))
  have HBU := hid (HB0.out.trans (hbt.mono (by have := HB.out.size; have := HB0.out.size; omega)))
  clear hbt x0 x1 x2 x3
  generalize Sort.grow ((w.alloc (Obj.cells #[.int .i64 6, .int .i64 5, .int .i64 l, .slice a 0 cap] 45)).drewN kq) os = wt at *
  obtain ⟨x0, x1, x2, x3⟩ := okept_box4 HKU.out hbw
  go_wp2_with fail
  refine (writeB B b _ _ _ HIU.out (by have := HC.out; have := HP.out; have := HL.out; have hz : ∀ c : UInt8, (⟨#[c]⟩ : ByteArray).size = 1 := fun _ => rfl; simp [ByteArray.size_append, hz] <;> omega) (by have := HB.out.size; have := HBU.out.size; omega)).mono ?_
  rintro e wz ⟨⟨r9, rfl⟩, hi0, hb, hk⟩
  have hi : Lib.IsBuilderF 83 5 B b (Lib.byteCells (acc ++ ([88] ++ Lib.itoa l))) wz := by
    have h2 := hi0
    rw [HSN.out] at h2
    simp only [ByteArray.data_append, Array.toList_append] at h2
    exact h2
  clear hi0
  have HI1 := hid hi
  have HB1 := hid (HBU.out.trans hb)
  have HK1 := hid (HKU.out.trans hk)
  clear hi hb hk x0 x1 x2 x3 HI0 HB0 HK0 HIU HBU HKU
  obtain ⟨x0, x1, x2, x3⟩ := okept_box4 HK1.out hbw
  go_wp2_with fail
  refine (write1 B b _ 42 _ HI1.out (by have := HC.out; have := HP.out; have := HL.out; simp <;> omega) (by have := HB.out.size; have := HB1.out.size; omega)).mono ?_
  rintro e wz ⟨rfl, hi, hb, hk⟩
  have HI2 := hid hi
  have HB2 := hid (HB1.out.trans hb)
  have HK2 := hid (HK1.out.trans hk)
  clear hi hb hk x0 x1 x2 x3 HI1 HB1 HK1
  go_wp2_with fail
  have HIF := hid (show Lib.IsBuilderF 83 5 B b (Lib.byteCells (acc ++ cx (d + 1) (.mk 6 5 l []))) _ from (show ((acc ++ ([88] ++ Lib.itoa l)) ++ [42]) = acc ++ cx (d + 1) (.mk 6 5 l []) by first | (rw [HT.out]; done) | (rw [HT.out]; simp)) ▸ HI2.out)
  exact bodyPost_ret (v := .tuple #[]) (by simp [results, Tryd.results62, go_sem]) rfl ⟨rfl, HIF.out, HB.out.trans HB2.out, HK.out.trans HK2.out⟩

end Go.Proofs.YtgekfnodmgkdaaaDoor

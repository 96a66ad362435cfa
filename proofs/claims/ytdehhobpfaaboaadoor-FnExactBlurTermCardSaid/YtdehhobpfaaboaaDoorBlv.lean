/- BlurTerm of the specification and of the program. -/
import Derived.Test.YtdehhobpfaaboaaDoorBlu
import Derived.Test.YtdehhobpfaaboaaDoorStt
import Derived.IntWalk
namespace Go.Proofs.YtdehhobpfaaboaaDoor
open Go.RowKit

theorem two_pow_le {n : Nat} (h : n ≤ 30) : (1 : Int) ≤ 2 ^ n ∧ (2 : Int) ^ n ≤ 1073741824 := by
  have h1 : (2 : Nat) ^ n ≤ 2 ^ 30 := Nat.pow_le_pow_right (by omega) h
  have h0 : 0 < (2 : Nat) ^ n := Nat.pow_pos (by omega)
  have e : ((2 : Int) ^ n) = ((2 ^ n : Nat) : Int) := by simp
  rw [e]
  omega

theorem fits_any (m : Int) (n : Nat) (hn : n ≤ 30) (w : World) : Calls Tryd.prog 67 #[.int .i64 m, .int .i64 (n : Int)] w fun e w' => e = .returned (.bool (fitB m n)) ∧ w = w' := by
  have hn2 : (n : Int) ≤ 64 := by omega
  have hn0 : (0 : Int) ≤ (n : Int) := by omega
  have hP := two_pow_le hn
  by_cases h0 : 0 ≤ m
  · have hm : (m / 2 ^ n == 0) = decide (m < 2 ^ n) := by
      rw [Bool.eq_iff_iff, beq_iff_eq, decide_eq_true_eq]
      constructor
      · intro h
        exact Int.lt_of_not_ge fun hge => by
          have h1 : 1 ≤ m / 2 ^ n := Int.le_ediv_of_mul_le (by omega) (by omega)
          omega
      · intro h
        exact Int.ediv_eq_zero_of_lt h0 h
    have HE := hid (show fitB m n = decide (m < 2 ^ n) by unfold fitB; rw [decide_eq_true h0]; rfl)
    have HM := hid hm
    have hge : decide (m ≥ 0) = true := by simpa using h0
    go_enter Tryd.func67, Tryd.ntmps67
    go_wp2_with fail
    go_ret
    refine ⟨?_, rfl⟩
    rw [HE.out, ← HM.out]
    rfl
  · have HE := hid (show fitB m n = false by unfold fitB; rw [decide_eq_false h0]; rfl)
    have hge : decide (m ≥ 0) = false := by simpa using h0
    go_enter Tryd.func67, Tryd.ntmps67
    go_wp2_with fail
    go_ret
    exact ⟨by rw [HE.out]; rfl, rfl⟩

theorem has_any (m : Int) (j : Nat) (hj : j ≤ 30) (w : World) : Calls Tryd.prog 68 #[.int .i64 m, .int .i64 (j : Int)] w fun e w' => e = .returned (.bool (bitB m j)) ∧ w = w' := by
  have hn2 : (j : Int) ≤ 64 := by omega
  have hn0 : (0 : Int) ≤ (j : Int) := by omega
  go_enter Tryd.func68, Tryd.ntmps68
  go_wp2_with fail
  go_ret
  exact ⟨rfl, rfl⟩
set_option linter.unusedVariables false in
set_option maxRecDepth 100000 in
set_option maxHeartbeats 4000000 in
theorem specBlurTerm (t : Tm) (m : Int) (v : Value) (fp : List Nat) (w : World) (hsz : t.sz ≤ 1048576) (hat : t.At w v fp) :
    Calls Tryd.prog 21 #[v, .int .i64 m] w (MadeMB w (blT m t) (blOk m t)) := by
  have hlt := hat.lt
  have HLT := hid hlt
  clear hlt
  have hat0 := hat
  obtain ⟨k, nm, num, k1, n1, a1, c1, k2, n2, a2, c2, lb, n3, a3, c3, rfl⟩ := hat.agg
  have hb0 : Below w.heap.size w ((w.alloc (Obj.cells #[.int .i64 k, .string nm, .int .i64 num, .int .i64 k1, .slice a1 n1 c1, .int .i64 k2, .slice a2 n2 c2, .int .i64 lb, .slice a3 n3 c3] 34)).alloc (Obj.cells #[.int .i64 0, .string ByteArray.empty, .int .i64 0, .int .i64 0, .slice none 0 0, .int .i64 0, .slice none 0 0, .int .i64 0, .slice none 0 0] 34)) := ((Below.refl _ _).alloc (Nat.le_refl _) _).alloc (by simp) _
  have hs0 : (((w.alloc (Obj.cells #[.int .i64 k, .string nm, .int .i64 num, .int .i64 k1, .slice a1 n1 c1, .int .i64 k2, .slice a2 n2 c2, .int .i64 lb, .slice a3 n3 c3] 34)).alloc (Obj.cells #[.int .i64 0, .string ByteArray.empty, .int .i64 0, .int .i64 0, .slice none 0 0, .int .i64 0, .slice none 0 0, .int .i64 0, .slice none 0 0] 34))).heap.size = w.heap.size + 1 + 1 := by simp
  have HZ0 := hid hs0
  have HB0 := hid hb0
  have HAT := hid (hat0.below hb0)
  have HTY := hid (specTermTypes t _ _ _ hsz (hat0.below hb0))
  have hTC : ∀ u ∈ blurL m (tyLst t).length (tyLst t), u.cnt ≤ 1048576 := blurL_cnt m _ _ _ (fun u hu => by
    have h := (tyLst_in hu).2
    have := tysOf_cnt t u h
    omega)
  have hn30 := tyLst_30 t
  have hE : blT m t = if fitB m (tyLst t).length = true then wiM (blurL m (tyLst t).length (tyLst t)) t else zTm := rfl
  have hO : blOk m t = (fitB m (tyLst t).length && wiOk (blurL m (tyLst t).length (tyLst t)) t) := rfl
  generalize hTL : tyLst t = TL at *
  have HTC := hTC
  have HWT := hid (fun (w' : World) (s : Value) (lfp : List Nat) (h : t.At w' (.agg #[.int .i64 k, .string nm, .int .i64 num, .int .i64 k1, .slice a1 n1 c1, .int .i64 k2, .slice a2 n2 c2, .int .i64 lb, .slice a3 n3 c3]) fp) (h2 : SlAt w' (blurL m TL.length TL) s lfp) => specWithTypes (blurL m TL.length TL) HTC t _ fp s lfp w' hsz h h2)
  generalize wiM (blurL m TL.length TL) t = E at *
  generalize wiOk (blurL m TL.length TL) t = ok at *
  generalize blT m t = E' at *
  generalize blOk m t = ok' at *
  have HN := hid hn30
  have HE := hid hE
  have HO := hid hO
  clear hat hat0 hb0 hs0 hTL hTC HTC hn30 hE hO
  go_enter Tryd.func21, Tryd.ntmps21
  go_wp2_with fail
  refine HTY.out.mono ?_
  rintro e w1 ⟨s1, f1, rfl, hs1, hf1, hb1⟩
  obtain ⟨hB, hZ⟩ := two_out hb1
  have hA := BlI.start (m := m) hs1 hf1
  obtain ⟨la, lcap, rfl, hlc, hlm, -⟩ := hs1.openA
  have b1 := below_trans HB0.out hb1
  rw [HZ0.out] at hA
  have HB1 := hid (And.intro b1 (And.intro hB hZ))
  have HA := hid hA
  have HAT1 := hid (HAT.out.below hb1)
  have hM1 : w.heap.size + 1 < w1.heap.size := lt_of_block hZ
  obtain ⟨y0, y1, y2, y3, y4, y5, y6, y7, y8⟩ := cells9 hZ
  have yz := fun o => frozen_of_block (o := o) hZ
  clear hs1 hf1 hb1 hB hZ hA
  have hP := two_pow_le HN.out
  have hw1 : IntKind.i64.wrap (2 ^ TL.length) = 2 ^ TL.length := IntWalk.i64_in _ (by omega)
  have hw2 : IntKind.i64.wrap (1 * 2 ^ TL.length) = 2 ^ TL.length := by rw [Int.one_mul]; exact hw1
  by_cases h0 : 0 ≤ m
  case neg =>
    have HFT := hid (show fitB m TL.length = false by unfold fitB; rw [decide_eq_false h0]; rfl)
    have FIN := hid (show MadeMB w E' ok' (.returned (.tuple #[.agg (Array.mk [.int .i64 0, .string ByteArray.empty, .int .i64 0, .int .i64 0, .slice none 0 0, .int .i64 0, .slice none 0 0, .int .i64 0, .slice none 0 0]), .bool false])) (put w1 (w.heap.size + 1) 0 [.int .i64 0, .string ByteArray.empty, .int .i64 0, .int .i64 0, .slice none 0 0, .int .i64 0, .slice none 0 0, .int .i64 0, .slice none 0 0]) from by rw [HE.out, HO.out, HFT.out]; exact zero_out b1 (by omega))
    have hlt0 : decide (m < 0) = true := by simpa using h0
    clear HFT b1
    go_wp2_with fail
    exact bodyPost_ret (v := .tuple #[.agg #[.int .i64 0, .string ByteArray.empty, .int .i64 0, .int .i64 0, .slice none 0 0, .int .i64 0, .slice none 0 0, .int .i64 0, .slice none 0 0], .bool false]) (by simp [results, Tryd.results21, go_sem, y0, y1, y2, y3, y4, y5, y6, y7, y8]; rfl) rfl FIN.out
  have hlt0 : decide (m < 0) = false := by simpa using h0
  have hn64 : (TL.length : Int) ≤ 64 := by have := HN.out; omega
  by_cases hft : m < 2 ^ TL.length
  case neg =>
    have HFT := hid (show fitB m TL.length = false by unfold fitB; rw [decide_eq_false hft, Bool.and_false])
    have FIN := hid (show MadeMB w E' ok' (.returned (.tuple #[.agg (Array.mk [.int .i64 0, .string ByteArray.empty, .int .i64 0, .int .i64 0, .slice none 0 0, .int .i64 0, .slice none 0 0, .int .i64 0, .slice none 0 0]), .bool false])) (put w1 (w.heap.size + 1) 0 [.int .i64 0, .string ByteArray.empty, .int .i64 0, .int .i64 0, .slice none 0 0, .int .i64 0, .slice none 0 0, .int .i64 0, .slice none 0 0]) from by rw [HE.out, HO.out, HFT.out]; exact zero_out b1 (by omega))
    have hge1 : decide (m ≥ 2 ^ TL.length) = true := by simpa using hft
    clear HFT b1
    go_wp2_with fail
    exact bodyPost_ret (v := .tuple #[.agg #[.int .i64 0, .string ByteArray.empty, .int .i64 0, .int .i64 0, .slice none 0 0, .int .i64 0, .slice none 0 0, .int .i64 0, .slice none 0 0], .bool false]) (by simp [results, Tryd.results21, go_sem, y0, y1, y2, y3, y4, y5, y6, y7, y8]; rfl) rfl FIN.out
  have HFT := hid (show fitB m TL.length = true by unfold fitB; rw [decide_eq_true h0, decide_eq_true hft]; rfl)
  have hge1 : decide (m ≥ 2 ^ TL.length) = false := by simpa using hft
  clear b1
  go_wp2_with fail
  go_loopw [7] (fun i wr => ∃ j : Nat, j ≤ TL.length ∧ i = .int .i64 j ∧ BlI (w.heap.size + 1 + 1) (.slice la TL.length lcap) m TL j wr ∧ Below (w.heap.size + 1 + 1) w1 wr) (fun i _ => TL.length - (intOf i).toNat)
  case atStart => exact ⟨0, Nat.zero_le _, rfl, HA.out, Below.refl _ _⟩
  case round =>
    obtain ⟨j, hj, rfl, hI, hb⟩ := hrel
    by_cases hlk : j < TL.length
    · have hj64 : (j : Int) ≤ 64 := by have := HN.out; omega
      have HI := hid hI
      have HBR := hid hb
      clear hI hb y0 y1 y2 y3 y4 y5 y6 y7 y8 yz
      by_cases hbit : bitB m j = true
      · have hI0 := HI.out
        rcases hI0 with ⟨h0', _⟩ | ⟨b, o, cap, hs, hp, hc, hm', hBb, hlt, hz, hx⟩
        · omega
        cases hs
        have HX := hid hx
        have hbs := HBR.out.size
        have hbt : (bits .and .i64 (m / 2 ^ j) 1 == 1) = true := hbit
        have HBT := hid hbit
        clear hx hbit
        go_wp2_with fail
        refine (l1Any_any _).mono ?_
        rintro e w2 ⟨rfl, hb2⟩
        obtain ⟨v0, v1, g, d0, d1, -, -⟩ := HX.out j hlk
        replace d0 := cell_keep d0 hb2
        replace d1 := cell_keep d1 hb2
        have hz2 := fun q => (hb2.frozen (p := ⟨b, q, none⟩) hlt).trans (hz q)
        have hlt2 : b < w2.heap.size := Nat.lt_of_lt_of_le hlt hb2.size
        have HI2 := hid (BlI.step (HI.out.below hb2) hlk HBT.out)
        have HBB := hid (((HBR.out.trans (hb2.mono (by omega))).setCell (p := ⟨b, o + j * 2, none⟩) hBb (.int .i64 1)).setCell (p := ⟨b, o + j * 2 + 1, none⟩) hBb (.slice none 0 0))
        clear hb2 hz
        go_wp2_with fail
        exact ⟨⟨j + 1, by omega, by go_num, HI2.out, HBB.out⟩, by simp [intOf]; omega⟩
      · have hbf : bitB m j = false := by simpa using hbit
        have hbt : (bits .and .i64 (m / 2 ^ j) 1 == 1) = false := hbf
        have HI2 := hid (BlI.skip HI.out hbf)
        have HBT := hid hbf
        clear hbit hbf
        go_wp2_with fail
        exact ⟨⟨j + 1, by omega, by go_num, HI2.out, HBR.out⟩, by simp [intOf]; omega⟩
    · obtain rfl : j = TL.length := by omega
      obtain ⟨lfp, hsl⟩ := hI.done
      have hB : wr.heap[w.heap.size]? = some (Obj.cells #[.int .i64 k, .string nm, .int .i64 num, .int .i64 k1, .slice a1 n1 c1, .int .i64 k2, .slice a2 n2 c2, .int .i64 lb, .slice a3 n3 c3] 34) := (hb.block _ (by omega)).trans HB1.out.2.1
      have hZ : wr.heap[w.heap.size + 1]? = some (Obj.cells #[.int .i64 0, .string ByteArray.empty, .int .i64 0, .int .i64 0, .slice none 0 0, .int .i64 0, .slice none 0 0, .int .i64 0, .slice none 0 0] 34) := (hb.block _ (by omega)).trans HB1.out.2.2
      have bw : Below w.heap.size w wr := HB1.out.1.trans (hb.mono (by omega))
      have HATR := hid (show t.At wr (.agg #[.int .i64 k, .string nm, .int .i64 num, .int .i64 k1, .slice a1 n1 c1, .int .i64 k2, .slice a2 n2 c2, .int .i64 lb, .slice a3 n3 c3]) fp from HAT1.out.congr fun x hx o => hb.cell (p := ⟨x, o, none⟩) (by have := HLT.out x hx; show x < _; omega))
      have HSL := hid hsl
      clear y0 y1 y2 y3 y4 y5 y6 y7 y8 yz
      obtain ⟨x0, x1, x2, x3, x4, x5, x6, x7, x8⟩ := cells9 hB
      have HZR := hid hZ
      have HBR := hid bw
      clear hB hZ bw hsl hI hb
      go_wp2_with fail
      refine (HWT.out _ _ _ HATR.out HSL.out).mono ?_
      rintro e w4 ⟨v', f', rfl, hu, hf, hb4⟩
      obtain ⟨r0, r1, r2, r3, r4, r5, r6, r7, r8, r9, r10, r11, r12, r13, r14, rfl⟩ := hu.agg
      have hZ4 := blk HZR.out hb4
      obtain ⟨y0, y1, y2, y3, y4, y5, y6, y7, y8⟩ := cells9 hZ4
      have yz := fun o => frozen_of_block (o := o) hZ4
      have hM : w.heap.size + 1 < w4.heap.size := lt_of_block hZ4
      have hsr : w.heap.size + 1 < wr.heap.size := lt_of_block HZR.out
      have b4 := below_trans HBR.out hb4
      have ab : Above wr.heap.size w4 (put w4 (w.heap.size + 1) 0 [.int .i64 r0, .string r1, .int .i64 r2, .int .i64 r3, .slice r5 r4 r6, .int .i64 r7, .slice r9 r8 r10, .int .i64 r11, .slice r13 r12 r14]) := (Above.refl _ _).put (by omega)
      have FIN := hid (show MadeMB w E' ok' (.returned (.tuple #[.agg (Array.mk [.int .i64 r0, .string r1, .int .i64 r2, .int .i64 r3, .slice r5 r4 r6, .int .i64 r7, .slice r9 r8 r10, .int .i64 r11, .slice r13 r12 r14]), .bool ok])) (put w4 (w.heap.size + 1) 0 [.int .i64 r0, .string r1, .int .i64 r2, .int .i64 r3, .slice r5 r4 r6, .int .i64 r7, .slice r9 r8 r10, .int .i64 r11, .slice r13 r12 r14]) from by
        rw [HE.out, HO.out, HFT.out]
        exact ⟨_, f', rfl, hu.above ab hf.ge, (hf.above ab (Nat.le_refl _)).mono (by omega), below_put b4 (by omega)⟩)
      clear x0 x1 x2 x3 x4 x5 x6 x7 x8 hu hf hb4 hZ4 b4 ab
      go_wp2_with fail
      exact bodyPost_ret (v := .tuple #[.agg (Array.mk [.int .i64 r0, .string r1, .int .i64 r2, .int .i64 r3, .slice r5 r4 r6, .int .i64 r7, .slice r9 r8 r10, .int .i64 r11, .slice r13 r12 r14]), .bool ok]) (by simp [results, Tryd.results21, go_sem, y0, y1, y2, y3, y4, y5, y6, y7, y8]) rfl FIN.out

set_option linter.unusedVariables false in
set_option maxRecDepth 100000 in
set_option maxHeartbeats 4000000 in
theorem implBlurTerm (t : Tm) (m : Int) (v : Value) (fp : List Nat) (w : World) (hsz : t.sz ≤ 1048576) (hF : Forms w) (hat : t.At w v fp) :
    Calls Tryd.prog 22 #[v, .int .i64 m] w (MadeMB w (blT m t) (blOk m t)) := by
  have hlt := hat.lt
  have HLT := hid hlt
  clear hlt
  have hat0 := hat
  obtain ⟨k, nm, num, k1, n1, a1, c1, k2, n2, a2, c2, lb, n3, a3, c3, rfl⟩ := hat.agg
  have hb0 : Below w.heap.size w ((w.alloc (Obj.cells #[.int .i64 k, .string nm, .int .i64 num, .int .i64 k1, .slice a1 n1 c1, .int .i64 k2, .slice a2 n2 c2, .int .i64 lb, .slice a3 n3 c3] 34)).alloc (Obj.cells #[.int .i64 0, .string ByteArray.empty, .int .i64 0, .int .i64 0, .slice none 0 0, .int .i64 0, .slice none 0 0, .int .i64 0, .slice none 0 0] 34)) := ((Below.refl _ _).alloc (Nat.le_refl _) _).alloc (by simp) _
  have hs0 : (((w.alloc (Obj.cells #[.int .i64 k, .string nm, .int .i64 num, .int .i64 k1, .slice a1 n1 c1, .int .i64 k2, .slice a2 n2 c2, .int .i64 lb, .slice a3 n3 c3] 34)).alloc (Obj.cells #[.int .i64 0, .string ByteArray.empty, .int .i64 0, .int .i64 0, .slice none 0 0, .int .i64 0, .slice none 0 0, .int .i64 0, .slice none 0 0] 34))).heap.size = w.heap.size + 1 + 1 := by simp
  have HZ0 := hid hs0
  have HB0 := hid hb0
  have HAT := hid (hat0.below hb0)
  have HTY := hid (implTermTypes t _ _ _ hsz (hF.below hb0) (hat0.below hb0))
  have hTC : ∀ u ∈ blurL m (tyLst t).length (tyLst t), u.cnt ≤ 1048576 := blurL_cnt m _ _ _ (fun u hu => by
    have h := (tyLst_in hu).2
    have := tysOf_cnt t u h
    omega)
  have hn30 := tyLst_30 t
  have hE : blT m t = if fitB m (tyLst t).length = true then wiM (blurL m (tyLst t).length (tyLst t)) t else zTm := rfl
  have hO : blOk m t = (fitB m (tyLst t).length && wiOk (blurL m (tyLst t).length (tyLst t)) t) := rfl
  generalize hTL : tyLst t = TL at *
  have HTC := hTC
  have HWT := hid (fun (w' : World) (s : Value) (lfp : List Nat) (hF' : Forms w') (h : t.At w' (.agg #[.int .i64 k, .string nm, .int .i64 num, .int .i64 k1, .slice a1 n1 c1, .int .i64 k2, .slice a2 n2 c2, .int .i64 lb, .slice a3 n3 c3]) fp) (h2 : SlAt w' (blurL m TL.length TL) s lfp) => implWithTypes (blurL m TL.length TL) t _ fp s lfp w' hsz hF' h h2)
  generalize wiM (blurL m TL.length TL) t = E at *
  generalize wiOk (blurL m TL.length TL) t = ok at *
  generalize blT m t = E' at *
  generalize blOk m t = ok' at *
  have HFO := hid hF
  have hG0 : 0 < w.heap.size := World.block_lt_of_cell? _ _ (hF 0 (by omega))
  have HG0 := hid hG0
  have HN := hid hn30
  have HE := hid hE
  have HO := hid hO
  clear hat hat0 hb0 hs0 hTL hTC HTC hn30 hE hO hF hG0
  go_enter Tryd.func22, Tryd.ntmps22
  go_wp2_with fail
  refine HTY.out.mono ?_
  rintro e w1 ⟨s1, f1, rfl, hs1, hf1, hb1⟩
  obtain ⟨hB, hZ⟩ := two_out hb1
  have hA := BlI.start (m := m) hs1 hf1
  obtain ⟨la, lcap, rfl, hlc, hlm, -⟩ := hs1.openA
  have b1 := below_trans HB0.out hb1
  rw [HZ0.out] at hA
  have HB1 := hid (And.intro b1 (And.intro hB hZ))
  have HA := hid hA
  have HAT1 := hid (HAT.out.below hb1)
  have hM1 : w.heap.size + 1 < w1.heap.size := lt_of_block hZ
  obtain ⟨y0, y1, y2, y3, y4, y5, y6, y7, y8⟩ := cells9 hZ
  have yz := fun o => frozen_of_block (o := o) hZ
  clear hs1 hf1 hb1 hB hZ hA
  go_wp2_with fail
  refine (fits_any m TL.length HN.out _).mono ?_
  rintro e wq ⟨rfl, rfl⟩
  by_cases hft : fitB m TL.length = true
  case neg =>
    have hff : fitB m TL.length = false := by simpa using hft
    have HFT := hid hff
    have FIN := hid (show MadeMB w E' ok' (.returned (.tuple #[.agg (Array.mk [.int .i64 0, .string ByteArray.empty, .int .i64 0, .int .i64 0, .slice none 0 0, .int .i64 0, .slice none 0 0, .int .i64 0, .slice none 0 0]), .bool false])) (put w1 (w.heap.size + 1) 0 [.int .i64 0, .string ByteArray.empty, .int .i64 0, .int .i64 0, .slice none 0 0, .int .i64 0, .slice none 0 0, .int .i64 0, .slice none 0 0]) from by rw [HE.out, HO.out, HFT.out]; exact zero_out b1 (by omega))
    rw [hff]
    clear HFT hff hft b1
    go_wp2_with fail
    exact bodyPost_ret (v := .tuple #[.agg #[.int .i64 0, .string ByteArray.empty, .int .i64 0, .int .i64 0, .slice none 0 0, .int .i64 0, .slice none 0 0, .int .i64 0, .slice none 0 0], .bool false]) (by simp [results, Tryd.results22, go_sem, y0, y1, y2, y3, y4, y5, y6, y7, y8]; rfl) rfl FIN.out
  have HFT := hid hft
  rw [hft]
  clear hft b1
  go_wp2_with fail
  go_loopw [20] (fun i wr => ∃ j : Nat, j ≤ TL.length ∧ i = .int .i64 j ∧ BlI (w.heap.size + 1 + 1) (.slice la TL.length lcap) m TL j wr ∧ Below (w.heap.size + 1 + 1) w1 wr) (fun i _ => TL.length - (intOf i).toNat)
  case atStart => exact ⟨0, Nat.zero_le _, rfl, HA.out, Below.refl _ _⟩
  case round =>
    obtain ⟨j, hj, rfl, hI, hb⟩ := hrel
    by_cases hlk : j < TL.length
    · have hj64 : (j : Int) ≤ 64 := by have := HN.out; omega
      have HI := hid hI
      have HBR := hid hb
      clear hI hb y0 y1 y2 y3 y4 y5 y6 y7 y8 yz
      by_cases hbit : bitB m j = true
      · have hI0 := HI.out
        rcases hI0 with ⟨h0', _⟩ | ⟨b, o, cap, hs, hp, hc, hm', hBb, hlt, hz, hx⟩
        · omega
        cases hs
        have HX := hid hx
        have hbs := HBR.out.size
        have hbt : (bits .and .i64 (m / 2 ^ j) 1 == 1) = true := hbit
        have HBT := hid hbit
        clear hx hbit
        go_wp2_with fail
        refine (has_any m j (by have := HN.out; omega) _).mono ?_
        rintro e wq ⟨rfl, rfl⟩
        rw [HBT.out]
        obtain ⟨v0, v1, g, d0, d1, -, -⟩ := HX.out j hlk
        have HI2 := hid (BlI.step HI.out hlk HBT.out)
        have HBB := hid ((HBR.out.setCell (p := ⟨b, o + j * 2, none⟩) hBb (.int .i64 1)).setCell (p := ⟨b, o + j * 2 + 1, none⟩) hBb (.slice none 0 0))
        have hlt2 : b < wr.heap.size := hlt
        go_wp2_with fail
        exact ⟨⟨j + 1, by omega, by go_num, HI2.out, HBB.out⟩, by simp [intOf]; omega⟩
      · have hbf : bitB m j = false := by simpa using hbit
        have hbt : (bits .and .i64 (m / 2 ^ j) 1 == 1) = false := hbf
        have HI2 := hid (BlI.skip HI.out hbf)
        have HBT := hid hbf
        clear hbit hbf
        go_wp2_with fail
        refine (has_any m j (by have := HN.out; omega) _).mono ?_
        rintro e wq ⟨rfl, rfl⟩
        rw [HBT.out]
        go_wp2_with fail
        exact ⟨⟨j + 1, by omega, by go_num, HI2.out, HBR.out⟩, by simp [intOf]; omega⟩
    · obtain rfl : j = TL.length := by omega
      obtain ⟨lfp, hsl⟩ := hI.done
      have hB : wr.heap[w.heap.size]? = some (Obj.cells #[.int .i64 k, .string nm, .int .i64 num, .int .i64 k1, .slice a1 n1 c1, .int .i64 k2, .slice a2 n2 c2, .int .i64 lb, .slice a3 n3 c3] 34) := (hb.block _ (by omega)).trans HB1.out.2.1
      have hZ : wr.heap[w.heap.size + 1]? = some (Obj.cells #[.int .i64 0, .string ByteArray.empty, .int .i64 0, .int .i64 0, .slice none 0 0, .int .i64 0, .slice none 0 0, .int .i64 0, .slice none 0 0] 34) := (hb.block _ (by omega)).trans HB1.out.2.2
      have bw : Below w.heap.size w wr := HB1.out.1.trans (hb.mono (by omega))
      have HATR := hid (show t.At wr (.agg #[.int .i64 k, .string nm, .int .i64 num, .int .i64 k1, .slice a1 n1 c1, .int .i64 k2, .slice a2 n2 c2, .int .i64 lb, .slice a3 n3 c3]) fp from HAT1.out.congr fun x hx o => hb.cell (p := ⟨x, o, none⟩) (by have := HLT.out x hx; show x < _; omega))
      have HSL := hid hsl
      clear y0 y1 y2 y3 y4 y5 y6 y7 y8 yz
      obtain ⟨x0, x1, x2, x3, x4, x5, x6, x7, x8⟩ := cells9 hB
      have HZR := hid hZ
      have HBR := hid bw
      clear hB hZ bw hsl hI hb
      go_wp2_with fail
      refine (HWT.out _ _ _ (HFO.out.below HBR.out) HATR.out HSL.out).mono ?_
      rintro e w4 ⟨v', f', rfl, hu, hf, hb4⟩
      obtain ⟨r0, r1, r2, r3, r4, r5, r6, r7, r8, r9, r10, r11, r12, r13, r14, rfl⟩ := hu.agg
      have hZ4 := blk HZR.out hb4
      obtain ⟨y0, y1, y2, y3, y4, y5, y6, y7, y8⟩ := cells9 hZ4
      have yz := fun o => frozen_of_block (o := o) hZ4
      have hM : w.heap.size + 1 < w4.heap.size := lt_of_block hZ4
      have hsr : w.heap.size + 1 < wr.heap.size := lt_of_block HZR.out
      have b4 := below_trans HBR.out hb4
      have ab : Above wr.heap.size w4 (put w4 (w.heap.size + 1) 0 [.int .i64 r0, .string r1, .int .i64 r2, .int .i64 r3, .slice r5 r4 r6, .int .i64 r7, .slice r9 r8 r10, .int .i64 r11, .slice r13 r12 r14]) := (Above.refl _ _).put (by omega)
      have FIN := hid (show MadeMB w E' ok' (.returned (.tuple #[.agg (Array.mk [.int .i64 r0, .string r1, .int .i64 r2, .int .i64 r3, .slice r5 r4 r6, .int .i64 r7, .slice r9 r8 r10, .int .i64 r11, .slice r13 r12 r14]), .bool ok])) (put w4 (w.heap.size + 1) 0 [.int .i64 r0, .string r1, .int .i64 r2, .int .i64 r3, .slice r5 r4 r6, .int .i64 r7, .slice r9 r8 r10, .int .i64 r11, .slice r13 r12 r14]) from by
        rw [HE.out, HO.out, HFT.out]
        exact ⟨_, f', rfl, hu.above ab hf.ge, (hf.above ab (Nat.le_refl _)).mono (by omega), below_put b4 (by omega)⟩)
      clear x0 x1 x2 x3 x4 x5 x6 x7 x8 hu hf hb4 hZ4 b4 ab
      go_wp2_with fail
      exact bodyPost_ret (v := .tuple #[.agg (Array.mk [.int .i64 r0, .string r1, .int .i64 r2, .int .i64 r3, .slice r5 r4 r6, .int .i64 r7, .slice r9 r8 r10, .int .i64 r11, .slice r13 r12 r14]), .bool ok]) (by simp [results, Tryd.results22, go_sem, y0, y1, y2, y3, y4, y5, y6, y7, y8]) rfl FIN.out

end Go.Proofs.YtdehhobpfaaboaaDoor

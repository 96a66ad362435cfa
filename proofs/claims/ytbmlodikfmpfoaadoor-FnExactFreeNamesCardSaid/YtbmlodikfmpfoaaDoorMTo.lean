/- The laws' own helper toTerm: a copy of a term in memory of its own. -/
import Derived.Test.YtbmlodikfmpfoaaDoorMSz
import Derived.Test.YtbmlodikfmpfoaaDoorTo
import Derived.Test.YtbmlodikfmpfoaaDoorMPure
namespace Go.Proofs.YtbmlodikfmpfoaaDoor
open Go.RowKit

theorem Tryd.underTms : Tryd.prog.underlying 32 = some (.slice 34) := by kernel_rfl
theorem Tryd.infoTm : (Tryd.prog.info? 34).map (fun i => (i.zero, i.size, i.bytes)) = some (some (.agg #[.int .i64 0, .string ByteArray.empty, .int .i64 0, .int .i64 0, .slice none 0 0, .int .i64 0, .slice none 0 0, .int .i64 0, .slice none 0 0]), 9, 128) := by kernel_rfl

/-- Three blocks that have just been made. -/
theorem three_out {w wr : World} {o1 o2 o3 : Obj} (h : Below (((w.alloc o1).alloc o2).alloc o3).heap.size (((w.alloc o1).alloc o2).alloc o3) wr) :
    wr.heap[w.heap.size]? = some o1 ∧ wr.heap[w.heap.size + 1]? = some o2 ∧ wr.heap[w.heap.size + 1 + 1]? = some o3 := by
  refine ⟨?_, ?_, ?_⟩
  · rw [h.block _ (by simp; omega), Below.heap_alloc _ _ _ (by simp; omega), Below.heap_alloc _ _ _ (by simp)]
    exact alloc_new _ _
  · rw [h.block _ (by simp), Below.heap_alloc _ _ _ (by simp)]
    have := alloc_new (w.alloc o1) o2
    simpa using this
  · rw [h.block _ (by simp)]
    have := alloc_new ((w.alloc o1).alloc o2) o3
    simpa using this

theorem cells9 {w : World} {M : Nat} {x0 x1 x2 x3 x4 x5 x6 x7 x8 : Value} {T : TypeId} {fz : Nat × Nat} (h : w.heap[M]? = some (.cells #[x0, x1, x2, x3, x4, x5, x6, x7, x8] T fz)) :
    w.cell? ⟨M, 0, none⟩ = some x0 ∧ w.cell? ⟨M, 1, none⟩ = some x1 ∧ w.cell? ⟨M, 2, none⟩ = some x2 ∧ w.cell? ⟨M, 3, none⟩ = some x3 ∧ w.cell? ⟨M, 4, none⟩ = some x4 ∧ w.cell? ⟨M, 5, none⟩ = some x5 ∧ w.cell? ⟨M, 6, none⟩ = some x6 ∧ w.cell? ⟨M, 7, none⟩ = some x7 ∧ w.cell? ⟨M, 8, none⟩ = some x8 := by
  simp only [cell_of_block h]
  exact ⟨rfl, rfl, rfl, rfl, rfl, rfl, rfl, rfl, rfl⟩

theorem blk {w w' : World} {M : Nat} {o : Obj} (h : w.heap[M]? = some o) (hb : Below w.heap.size w w') : w'.heap[M]? = some o := (hb.block _ (lt_of_block h)).trans h

theorem blk_ne {w : World} {M : Nat} {o : Obj} {a : Addr} {u : Value} (h : w.heap[M]? = some o) (hn : M ≠ a.block) : (w.setCell a u).heap[M]? = some o := (Below.heap_setCell w a u M hn).trans h

def ToMC (t : Tm) : Prop := ∀ (v : Value) (fp : List Nat) (w : World), t.At w v fp → t.sz ≤ 1048576 → Calls Tryd.prog 15 #[v] w (MadeM w t)

def ToMSC (ts : List Tm) : Prop := ∀ (s : Value) (fp : List Nat) (w : World), SmAt w ts s fp → ts.length + szML ts ≤ 1048576 → Calls Tryd.prog 57 #[s] w (MadeMS w ts)

set_option maxHeartbeats 2000000 in
theorem toTerm_of (k : Int) (nm : ByteArray) (num : Int) (ty fr : Ty) (lb : Int) (ts : List Tm) (ih : ToMSC ts) : ToMC (.mk k nm num ty fr lb ts) := by
  intro v fp w hat hn
  obtain ⟨k1, n1, a1, c1, k2, n2, a2, c2, a3, c3, f1, f2, f3, rfl, hnm, ht1, ht2, rfl, hs⟩ := hat.parts
  have HIH := hid ih
  clear ih hat
  simp only [Tm.sz] at hn
  have hn1 : ty.cnt ≤ 1048576 := by omega
  have hn2 : fr.cnt ≤ 1048576 := by omega
  have hn3 : ts.length + szML ts ≤ 1048576 := by omega
  clear hn
  have hb0 : Below w.heap.size w (((w.alloc (Obj.cells #[.int .i64 k, .string nm, .int .i64 num, .int .i64 k1, .slice a1 n1 c1, .int .i64 k2, .slice a2 n2 c2, .int .i64 lb, .slice a3 ts.length c3] 27)).alloc
      (Obj.cells #[.int .i64 0, .string ByteArray.empty, .int .i64 0, .int .i64 0, .slice none 0 0, .int .i64 0, .slice none 0 0, .int .i64 0, .slice none 0 0] 34)).alloc
      (Obj.cells #[.int .i64 k, .string nm, .int .i64 num, .int .i64 0, .slice none 0 0, .int .i64 0, .slice none 0 0, .int .i64 0, .slice none 0 0] 34)) :=
    ((((Below.refl _ _).alloc (Nat.le_refl _) _).alloc (by simp) _).alloc (by simp; omega) _)
  go_enter Tryd.func15, Tryd.ntmps15
  go_wp2_with fail
  refine (toType_any ty _ _ _ (ht1.below hb0) hn1).mono ?_
  rintro e w1 ⟨v1, g1, rfl, hv1, hg1, hb1⟩
  obtain ⟨j1, m1, p1, d1, rfl⟩ := hv1.agg
  obtain ⟨hB, hZ, hO⟩ := three_out hb1
  obtain ⟨x0, x1, x2, x3, x4, x5, x6, x7, x8⟩ := cells9 hB
  obtain ⟨y0, y1, y2, y3, y4, y5, y6, y7, y8⟩ := cells9 hO
  have yz := fun o => frozen_of_block (o := o) hO
  have hs0 : (((w.alloc (Obj.cells #[.int .i64 k, .string nm, .int .i64 num, .int .i64 k1, .slice a1 n1 c1, .int .i64 k2, .slice a2 n2 c2, .int .i64 lb, .slice a3 ts.length c3] 27)).alloc
      (Obj.cells #[.int .i64 0, .string ByteArray.empty, .int .i64 0, .int .i64 0, .slice none 0 0, .int .i64 0, .slice none 0 0, .int .i64 0, .slice none 0 0] 34)).alloc
      (Obj.cells #[.int .i64 k, .string nm, .int .i64 num, .int .i64 0, .slice none 0 0, .int .i64 0, .slice none 0 0, .int .i64 0, .slice none 0 0] 34)).heap.size = w.heap.size + 1 + 1 + 1 := by simp
  have b1 := below_trans hb0 hb1
  rw [hs0] at hg1
  clear hs0
  clear hb1 hb0
  go_wp2_with fail
  have hM : w.heap.size + 1 + 1 < w1.heap.size := lt_of_block hO
  have b2 := (b1.setCell (p := ⟨w.heap.size + 1 + 1, 3, none⟩) (by simp; omega) (.int .i64 j1)).setCell (p := ⟨w.heap.size + 1 + 1, 4, none⟩) (by simp; omega) (.slice p1 m1 d1)
  refine (toType_any fr _ _ _ (ht2.below b2) hn2).mono ?_
  rintro e w2 ⟨v2, g2, rfl, hv2, hg2, hb2⟩
  obtain ⟨j2, m2, p2, d2, rfl⟩ := hv2.agg
  have ab1 := ((Above.refl (w.heap.size + 1 + 1 + 1) w1).setCell (p := ⟨w.heap.size + 1 + 1, 3, none⟩) (Nat.lt_succ_self _) (.int .i64 j1)).setCell (p := ⟨w.heap.size + 1 + 1, 4, none⟩) (Nat.lt_succ_self _) (.slice p1 m1 d1)
  have hv1' := (hv1.above ab1 hg1.ge).below hb2
  have F2 := Fresh.append (hg1.above ab1 (Nat.le_refl _)) hg2 (Nat.le_refl _) (by rw [size_setCell, size_setCell]; omega) hb2
  have hO2 : w2.heap[w.heap.size + 1 + 1]? = some (.cells #[.int .i64 k, .string nm, .int .i64 num, .int .i64 j1, .slice p1 m1 d1, .int .i64 0, .slice none 0 0, .int .i64 0, .slice none 0 0] 34 (0, 0)) :=
    blk (heap_setCell_at (heap_setCell_at hO _) _) hb2
  have hB2 := blk (blk_ne (a := ⟨w.heap.size + 1 + 1, 4, none⟩) (u := .slice p1 m1 d1) (blk_ne (a := ⟨w.heap.size + 1 + 1, 3, none⟩) (u := .int .i64 j1) hB (by simp; omega)) (by simp; omega)) hb2
  have hZ2 := blk (blk_ne (a := ⟨w.heap.size + 1 + 1, 4, none⟩) (u := .slice p1 m1 d1) (blk_ne (a := ⟨w.heap.size + 1 + 1, 3, none⟩) (u := .int .i64 j1) hZ (by simp)) (by simp)) hb2
  have b3 := below_trans b2 hb2
  clear x0 x1 x2 x3 x4 x5 x6 x7 x8 y0 y1 y2 y3 y4 y5 y6 y7 y8 yz hB hZ hO hv1 hg1 hg2 b1 b2 hb2 ab1
  obtain ⟨x0, x1, x2, x3, x4, x5, x6, x7, x8⟩ := cells9 hB2
  obtain ⟨y0, y1, y2, y3, y4, y5, y6, y7, y8⟩ := cells9 hO2
  have yz := fun o => frozen_of_block (o := o) hO2
  have hM2 : w.heap.size + 1 + 1 < w2.heap.size := lt_of_block hO2
  go_wp2_with fail
  have b4 := ((b3.setCell (p := ⟨w.heap.size + 1 + 1, 5, none⟩) (by simp; omega) (.int .i64 j2)).setCell (p := ⟨w.heap.size + 1 + 1, 6, none⟩) (by simp; omega) (.slice p2 m2 d2)).setCell (p := ⟨w.heap.size + 1 + 1, 7, none⟩) (by simp; omega) (.int .i64 lb)
  refine (HIH.out _ _ _ (hs.below b4) hn3).mono ?_
  rintro e w3 ⟨s3, g3, rfl, hv3, hg3, hb3⟩
  obtain ⟨p3, d3, rfl⟩ := hv3.shape
  have ab2 := (((Above.refl (w.heap.size + 1 + 1 + 1) w2).setCell (p := ⟨w.heap.size + 1 + 1, 5, none⟩) (Nat.lt_succ_self _) (.int .i64 j2)).setCell (p := ⟨w.heap.size + 1 + 1, 6, none⟩) (Nat.lt_succ_self _) (.slice p2 m2 d2)).setCell (p := ⟨w.heap.size + 1 + 1, 7, none⟩) (Nat.lt_succ_self _) (.int .i64 lb)
  have F2' := F2.above ab2 (Nat.le_refl _)
  have hv1'' := (hv1'.above ab2 (fun b hb => F2.ge b (by simp [hb]))).below hb3
  have hv2'' := (hv2.above ab2 (fun b hb => F2.ge b (by simp [hb]))).below hb3
  have F3 := Fresh.append F2' hg3 (Nat.le_refl _) (by rw [size_setCell, size_setCell, size_setCell]; omega) hb3
  have hO3 : w3.heap[w.heap.size + 1 + 1]? = some (.cells #[.int .i64 k, .string nm, .int .i64 num, .int .i64 j1, .slice p1 m1 d1, .int .i64 j2, .slice p2 m2 d2, .int .i64 lb, .slice none 0 0] 34 (0, 0)) :=
    blk (heap_setCell_at (heap_setCell_at (heap_setCell_at hO2 _) _) _) hb3
  have hZ3 := blk (blk_ne (a := ⟨w.heap.size + 1 + 1, 7, none⟩) (u := .int .i64 lb) (blk_ne (a := ⟨w.heap.size + 1 + 1, 6, none⟩) (u := .slice p2 m2 d2) (blk_ne (a := ⟨w.heap.size + 1 + 1, 5, none⟩) (u := .int .i64 j2) hZ2 (by simp)) (by simp)) (by simp)) hb3
  have b5 := below_trans b4 hb3
  clear x0 x1 x2 x3 x4 x5 x6 x7 x8 y0 y1 y2 y3 y4 y5 y6 y7 y8 yz hB2 hZ2 hO2 hv1' hv2 hg3 b3 b4 hb3 ab2 F2 F2' hM hM2
  obtain ⟨x0, x1, x2, x3, x4, x5, x6, x7, x8⟩ := cells9 hZ3
  obtain ⟨y0, y1, y2, y3, y4, y5, y6, y7, y8⟩ := cells9 hO3
  have xz := fun o => frozen_of_block (o := o) hZ3
  have yz := fun o => frozen_of_block (o := o) hO3
  have hM3 : w.heap.size + 1 + 1 < w3.heap.size := lt_of_block hO3
  have ab3 := Above.put (vs := [.int .i64 k, .string nm, .int .i64 num, .int .i64 j1, .slice p1 m1 d1, .int .i64 j2, .slice p2 m2 d2, .int .i64 lb, .slice p3 ts.length d3]) (o := 0) ((Above.refl (w.heap.size + 1 + 1 + 1) w3).setCell (p := ⟨w.heap.size + 1 + 1, 8, none⟩) (Nat.lt_succ_self _) (.slice p3 ts.length d3)) (b := w.heap.size + 1) (by omega)
  have b6 := below_put (vs := [.int .i64 k, .string nm, .int .i64 num, .int .i64 j1, .slice p1 m1 d1, .int .i64 j2, .slice p2 m2 d2, .int .i64 lb, .slice p3 ts.length d3]) (o := 0) (b5.setCell (p := ⟨w.heap.size + 1 + 1, 8, none⟩) (by simp; omega) (.slice p3 ts.length d3)) (b := w.heap.size + 1) (by omega)
  have q1 := hv1''.above ab3 (fun b hb => F3.ge b (by simp [hb]))
  have q2 := hv2''.above ab3 (fun b hb => F3.ge b (by simp [hb]))
  have q3 := hv3.above ab3 (fun b hb => F3.ge b (by simp [hb]))
  have F4 := F3.above ab3 (Nat.le_refl _)
  rw [List.append_assoc] at F4
  have hfin := Tm.at_mk (k := k) (num := num) (lb := lb) |>.2 ⟨_, _, _, _, _, g1, g2, g3, rfl, hnm, q1, q2, rfl, q3⟩
  clear hv1'' hv2'' hv3 F3 ab3 q1 q2 q3
  go_wp2_with fail
  exact bodyPost_ret (v := .agg #[.int .i64 k, .string nm, .int .i64 num, .int .i64 j1, .slice p1 m1 d1, .int .i64 j2, .slice p2 m2 d2, .int .i64 lb, .slice p3 ts.length d3]) (by simp [results, Tryd.results15, go_sem, x0, x1, x2, x3, x4, x5, x6, x7, x8]) rfl ⟨_, _, rfl, hfin, F4.mono (by omega), b6⟩

/-- The loop's relation behind k rounds: the new block and what its first k elements lead to. -/
def ToMInv (w : World) (ts : List Tm) (k : Nat) (wr : World) : Prop :=
  ∃ fp, BuiltM w.heap.size 34 ts.length (ts.take k) fp wr ∧ Below w.heap.size w wr

set_option maxHeartbeats 1000000 in
theorem toTermS_of (ts : List Tm) (ih : ∀ t ∈ ts, ToMC t) : ToMSC ts := by
  intro s fp w hs hn
  have HIH := hid ih
  clear ih
  obtain ⟨a, cap, rfl, hc, hm, hget⟩ := hs.open
  have HG := hid hget
  clear hget hs
  obtain ⟨Z, hZ, hmk⟩ : ∃ Z : Array Value, Z.size = ts.length * 9 ∧ ∀ w : World, (Instr.makeSlice 32 (.int .i64 (ts.length : Int)) (.int .i64 (ts.length : Int))).run Tryd.prog w = .ok (.slice (some ⟨w.heap.size, 0, none⟩) ts.length ts.length) (w.alloc (.cells Z 34)) := by
    obtain ⟨i0, hi, hz0, hz1, hz2⟩ := info_parts (P := Tryd.prog) (e := 34) Tryd.infoTm
    have r := fun w : World => run_make w _ _ i0 _ Tryd.underTms hi hz0 .i64 .i64 (ts.length : Int) (ts.length : Int) (by omega) (by omega) (by rw [hz2]; omega) (by omega)
    simp only [Int.toNat_natCast, hz1] at r
    exact ⟨_, size_madeCells _ _, r⟩
  have HZ := hid hZ
  have HN := hid hn
  clear hZ hn
  go_enter Tryd.func57, Tryd.ntmps57
  go_wp2_with fail
  go_loopw [4] (fun i wr => ∃ k : Nat, k ≤ ts.length ∧ i = .int .i64 k ∧ ToMInv w ts k wr) (fun i _ => ts.length - (intOf i).toNat)
  case atStart =>
    exact ⟨0, Nat.zero_le _, rfl, [], BuiltM.zero (C := Z) (alloc_new _ _) HZ.out, (Below.refl _ _).alloc (Nat.le_refl _) _⟩
  case round =>
    obtain ⟨k, hk, rfl, f0, hB, hb⟩ := hrel
    by_cases hlk : k < ts.length
    · obtain ⟨b, o, q0, q1, q2, q3, q4, q5, q6, q7, q8, q9, q10, q11, q12, q13, q14, f1, rfl, hblt, c0, c1, c2, c3, c4, c5, c6, c7, c8, hat, hf⟩ := HG.out k hlk
      have d0 := (hb.cell (p := ⟨b, o + k * 9, none⟩) hblt).trans c0
      have d1 := (hb.cell (p := ⟨b, o + k * 9 + 1, none⟩) hblt).trans c1
      have d2 := (hb.cell (p := ⟨b, o + k * 9 + 2, none⟩) hblt).trans c2
      have d3 := (hb.cell (p := ⟨b, o + k * 9 + 3, none⟩) hblt).trans c3
      have d4 := (hb.cell (p := ⟨b, o + k * 9 + 4, none⟩) hblt).trans c4
      have d5 := (hb.cell (p := ⟨b, o + k * 9 + 5, none⟩) hblt).trans c5
      have d6 := (hb.cell (p := ⟨b, o + k * 9 + 6, none⟩) hblt).trans c6
      have d7 := (hb.cell (p := ⟨b, o + k * 9 + 7, none⟩) hblt).trans c7
      have d8 := (hb.cell (p := ⟨b, o + k * 9 + 8, none⟩) hblt).trans c8
      clear c0 c1 c2 c3 c4 c5 c6 c7 c8
      go_wp2_with fail
      refine (HIH.out _ (List.getElem_mem hlk) _ _ _ (hat.below hb) (by have := HN.out; have := sz_mem (List.getElem_mem hlk); omega)).mono ?_
      rintro e w1 ⟨v, f', rfl, hat', hf', hb1⟩
      obtain ⟨r0, r1, r2, r3, r4, r5, r6, r7, r8, r9, r10, r11, r12, r13, r14, rfl⟩ := hat'.agg
      obtain ⟨⟨y0, y1, y2, y3, y4, y5, y6, y7, y8, e0, e1, e2, e3, e4, e5, e6, e7, e8⟩, z0⟩ := hB.cells hlk hb1
      clear d0 d1 d2 d3 d4 d5 d6 d7 d8
      go_wp2_with fail
      refine ⟨⟨k + 1, by omega, by go_num, f0 ++ f', ?_, ?_⟩, by simp [intOf]; omega⟩
      · rw [take_succM hlk]
        exact hB.step (vs := [_, _, _, _, _, _, _, _, _]) (by rw [List.length_take]; omega) hlk hb1 hat' hf'
      · exact below_put (vs := [_, _, _, _, _, _, _, _, _]) (o := k * 9) (b := w.heap.size) (below_trans hb hb1) (Nat.le_refl _)
    · go_wp2_with fail
      go_ret
      obtain ⟨fp', hs', hf'⟩ := hB.done (by rw [List.length_take]; omega) (by unfold maxLen; omega)
      rw [List.take_of_length_le (by omega)] at hs'
      exact ⟨_, fp', rfl, hs', hf', hb⟩

/-- The helper's contracts, for every term. -/
theorem toTerm_any : ∀ t : Tm, ToMC t := Tm.ind fun k nm num ty fr lb ts ih => toTerm_of k nm num ty fr lb ts (toTermS_of ts ih)

end Go.Proofs.YtbmlodikfmpfoaaDoor

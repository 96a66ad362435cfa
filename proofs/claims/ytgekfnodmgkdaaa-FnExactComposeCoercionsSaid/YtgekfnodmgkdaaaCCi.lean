/- The program's copyCoercion. -/
import Derived.Test.YtgekfnodmgkdaaaCTo
namespace Go.Proofs.Ytgekfnodmgkdaaa
open Go.RowKit

def CiC (t : Co) : Prop := ∀ (v : Value) (fp : List Nat) (w : World), t.At w v fp → t.cnt ≤ 1048576 → Calls Try.prog 38 #[v] w (MadeC w t)

theorem two_blocks {w wr : World} {o o' : Obj} (h : Below ((w.alloc o).alloc o').heap.size ((w.alloc o).alloc o') wr) : wr.heap[w.heap.size]? = some o ∧ wr.heap[w.heap.size + 1]? = some o' := by
  have hs : (w.alloc o).heap.size = w.heap.size + 1 := by simp
  refine ⟨(h.block w.heap.size (by simp; omega)).trans ((Below.heap_alloc _ _ _ (by simp)).trans (alloc_new w _)), ?_⟩
  rw [h.block (w.heap.size + 1) (by simp), ← hs]
  exact alloc_new _ _

/-- Behind the stores of the copy's end. -/
theorem copy_close {w wr : World} {k g l : Int} {ts : List Co} {a : Option Addr} {n cap : Nat} {fp : List Nat} (hs : CSl wr ts (.slice a n cap) fp) (hf : Fresh (w.heap.size + 1 + 1) wr fp) (hb : Below w.heap.size w wr) :
    MadeC w (.mk k g l ts) (.returned (.agg #[.int .i64 k, .int .i64 g, .int .i64 l, .slice a n cap])) (put4 (wr.setCell ⟨w.heap.size, 3, none⟩ (.slice a n cap)) (w.heap.size + 1) 0 (.int .i64 k) (.int .i64 g) (.int .i64 l) (.slice a n cap)) := by
  have hab := (((((Above.refl (w.heap.size + 1 + 1) wr).setCell (p := ⟨w.heap.size, 3, none⟩) (by simp; omega) (.slice a n cap)).setCell (p := ⟨w.heap.size + 1, 0, none⟩) (by simp) (.int .i64 k)).setCell (p := ⟨w.heap.size + 1, 0 + 1, none⟩) (by simp) (.int .i64 g)).setCell (p := ⟨w.heap.size + 1, 0 + 2, none⟩) (by simp) (.int .i64 l)).setCell (p := ⟨w.heap.size + 1, 0 + 3, none⟩) (by simp) (.slice a n cap)
  have hbb := ((((hb.setCell (p := ⟨w.heap.size, 3, none⟩) (Nat.le_refl _) (.slice a n cap)).setCell (p := ⟨w.heap.size + 1, 0, none⟩) (by simp) (.int .i64 k)).setCell (p := ⟨w.heap.size + 1, 0 + 1, none⟩) (by simp) (.int .i64 g)).setCell (p := ⟨w.heap.size + 1, 0 + 2, none⟩) (by simp) (.int .i64 l)).setCell (p := ⟨w.heap.size + 1, 0 + 3, none⟩) (by simp) (.slice a n cap)
  exact ⟨_, fp, rfl, Co.at_mk.2 ⟨_, rfl, hs.above hab hf.ge⟩, (hf.above hab (Nat.le_refl _)).mono (by omega), hbb⟩

set_option maxRecDepth 100000 in
set_option maxHeartbeats 2000000 in
theorem copyCo_of (k g l : Int) (ts : List Co) (ih : ∀ t ∈ ts, CiC t) : CiC (.mk k g l ts) := by
  intro v fp w hat hn
  have HIH := hid ih
  clear ih
  obtain ⟨s, rfl, hs⟩ := Co.at_mk.1 hat
  obtain ⟨a, cap, rfl, hc, hm, hget⟩ := hs.open
  have HG := hid hget
  have HN := hid (show ts.length + ccntL ts ≤ 1048576 by simpa only [Co.cnt] using hn)
  have hb0 : Below w.heap.size w ((w.alloc (Obj.cells #[.int .i64 k, .int .i64 g, .int .i64 l, .slice a ts.length cap] 44)).alloc (Obj.cells #[.int .i64 0, .int .i64 0, .int .i64 0, .slice none 0 0] 44)) := ((Below.refl _ _).alloc (Nat.le_refl _) _).alloc (by simp) _
  have HB0 := hid hb0
  have hs2 : (((w.alloc (Obj.cells #[.int .i64 k, .int .i64 g, .int .i64 l, .slice a ts.length cap] 44)).alloc (Obj.cells #[.int .i64 0, .int .i64 0, .int .i64 0, .slice none 0 0] 44))).heap.size = w.heap.size + 1 + 1 := by simp
  have HS2 := hid hs2
  have HBX := hid (fun (wr : World) (h : Below (((w.alloc (Obj.cells #[.int .i64 k, .int .i64 g, .int .i64 l, .slice a ts.length cap] 44)).alloc (Obj.cells #[.int .i64 0, .int .i64 0, .int .i64 0, .slice none 0 0] 44))).heap.size ((w.alloc (Obj.cells #[.int .i64 k, .int .i64 g, .int .i64 l, .slice a ts.length cap] 44)).alloc (Obj.cells #[.int .i64 0, .int .i64 0, .int .i64 0, .slice none 0 0] 44)) wr) => two_blocks h)
  clear hget hat hs hn hb0 hs2
  by_cases h0 : ts.length = 0
  · have ht : ts = [] := List.length_eq_zero_iff.1 h0
    subst ht
    go_enter Try.func38, Try.ntmps38
    go_wp2_with fail
    go_loop [15] (fun i => i = .int .i64 0) (fun _ => 0)
    case atStart => rfl
    case round =>
      obtain rfl := hrel
      go_wp2_with fail
      exact bodyPost_ret (v := .agg #[.int .i64 k, .int .i64 g, .int .i64 l, .slice none 0 0]) (by simp [results, Try.results38, go_sem]) rfl ⟨_, [], rfl, Co.at_mk.2 ⟨.slice none 0 0, rfl, CSl.nilA⟩, Fresh.nil _ _, ((Below.refl _ _).alloc (Nat.le_refl _) _).alloc (by simp) _⟩
  have hpos : 0 < ts.length := by omega
  have hpos' : (0 : Int) < (ts.length : Int) := by omega
  obtain ⟨Z, hZ, hmk⟩ : ∃ Z : Array Value, Z.size = ts.length * 4 ∧ ∀ w : World, (Instr.makeSlice 42 (.int .i64 (ts.length : Int)) (.int .i64 (ts.length : Int))).run Try.prog w = .ok (.slice (some ⟨w.heap.size, 0, none⟩) ts.length ts.length) (w.alloc (.cells Z 44)) := by
    obtain ⟨i0, hi, hz0, hz1, hz2⟩ := info_parts (P := Try.prog) (e := 44) Try.infoCo
    have hsm : ts.length ≤ 1048576 := by have := HN.out; omega
    have r := fun w : World => run_make w _ _ i0 _ Try.underCos hi hz0 .i64 .i64 (ts.length : Int) (ts.length : Int) (by omega) (by omega) (by rw [hz2]; omega) (by omega)
    simp only [Int.toNat_natCast, hz1] at r
    exact ⟨_, size_madeCells _ _, r⟩
  have HZ := hid hZ
  clear hZ h0
  go_enter Try.func38, Try.ntmps38
  go_wp2_with fail
  go_loopw [15] (fun i wr => ∃ (j : Nat) (f0 : List Nat), j ≤ ts.length ∧ i = .int .i64 j ∧ BuiltC (w.heap.size + 1 + 1) 44 ts.length (ts.take j) f0 wr ∧ Below (((w.alloc (Obj.cells #[.int .i64 k, .int .i64 g, .int .i64 l, .slice a ts.length cap] 44)).alloc (Obj.cells #[.int .i64 0, .int .i64 0, .int .i64 0, .slice none 0 0] 44))).heap.size ((w.alloc (Obj.cells #[.int .i64 k, .int .i64 g, .int .i64 l, .slice a ts.length cap] 44)).alloc (Obj.cells #[.int .i64 0, .int .i64 0, .int .i64 0, .slice none 0 0] 44)) wr) (fun i _ => ts.length - (intOf i).toNat)
  case atStart => exact ⟨0, [], Nat.zero_le _, rfl, BuiltC.zero (C := Z) (by rw [← HS2.out]; exact alloc_new _ _) HZ.out, (Below.refl _ _).alloc (Nat.le_refl _) _⟩
  case round =>
    obtain ⟨j, f0, hj, rfl, hB, hb⟩ := hrel
    obtain ⟨bX, bR⟩ := HBX.out _ hb
    have x0 : wr.cell? ⟨w.heap.size, 0, none⟩ = some (.int .i64 k) := by rw [cell_of_block bX]; rfl
    have x1 : wr.cell? ⟨w.heap.size, 1, none⟩ = some (.int .i64 g) := by rw [cell_of_block bX]; rfl
    have x2 : wr.cell? ⟨w.heap.size, 2, none⟩ = some (.int .i64 l) := by rw [cell_of_block bX]; rfl
    have x3 : wr.cell? ⟨w.heap.size, 3, none⟩ = some (.slice a ts.length cap) := by rw [cell_of_block bX]; rfl
    by_cases hlk : j < ts.length
    · obtain ⟨b, o, k1, g1, l1, n1, a1, cap1, f1, rfl, hblt, c0, c1, c2, c3, hat, hf⟩ := HG.out j hlk
      have hbw := below_trans HB0.out hb
      have d0 := (hbw.cell (p := ⟨b, o + j * 4, none⟩) hblt).trans c0
      have d1 := (hbw.cell (p := ⟨b, o + j * 4 + 1, none⟩) hblt).trans c1
      have d2 := (hbw.cell (p := ⟨b, o + j * 4 + 2, none⟩) hblt).trans c2
      have d3 := (hbw.cell (p := ⟨b, o + j * 4 + 3, none⟩) hblt).trans c3
      have hj0 : (0 : Int) ≤ (j : Int) := by omega
      have hj1 : (j : Int) < (ts.length : Int) := by omega
      clear c0 c1 c2 c3 bX bR
      go_wp2_with fail
      refine (HIH.out _ (List.getElem_mem hlk) _ _ _ (hat.below hbw) (by have := HN.out; have := ccnt_mem (List.getElem_mem hlk); omega)).mono ?_
      rintro e w1 ⟨v, f', rfl, hat', hf', hb1⟩
      obtain ⟨k1', g1', l1', n1', a1', cap1', rfl⟩ := hat'.agg
      obtain ⟨y0, y1, y2, y3, p0, p1, p2, p3, z0⟩ := hB.cells hlk hb1
      clear d0 d1 d2 d3 x0 x1 x2 x3
      go_wp2_with fail
      refine ⟨⟨j + 1, f0 ++ f', by omega, by go_num, ?_, ?_⟩, by simp [intOf]; omega⟩
      · rw [ctake_succ hlk]
        exact hB.step (by rw [List.length_take]; omega) hlk hb1 hat' hf'
      · have hM := Nat.le_of_eq HS2.out
        exact ((((below_trans hb hb1).setCell (p := ⟨w.heap.size + 1 + 1, j * 4, none⟩) hM _).setCell (p := ⟨w.heap.size + 1 + 1, j * 4 + 1, none⟩) hM _).setCell (p := ⟨w.heap.size + 1 + 1, j * 4 + 2, none⟩) hM _).setCell (p := ⟨w.heap.size + 1 + 1, j * 4 + 3, none⟩) hM _
    · obtain ⟨fp', hs', hf'⟩ := hB.done (by rw [List.length_take]; omega) (by have := HN.out; unfold maxLen; omega)
      rw [List.take_of_length_le (by omega)] at hs'
      have FIN := copy_close (k := k) (g := g) (l := l) hs' hf' (below_trans HB0.out hb)
      simp only [put4, Nat.zero_add] at FIN
      have xz := frozen_of_block (o := 3) bX
      have r0 : wr.cell? ⟨w.heap.size + 1, 0, none⟩ = some (.int .i64 0) := by rw [cell_of_block bR]; rfl
      have r1 : wr.cell? ⟨w.heap.size + 1, 1, none⟩ = some (.int .i64 0) := by rw [cell_of_block bR]; rfl
      have r2 : wr.cell? ⟨w.heap.size + 1, 2, none⟩ = some (.int .i64 0) := by rw [cell_of_block bR]; rfl
      have r3 : wr.cell? ⟨w.heap.size + 1, 3, none⟩ = some (.slice none 0 0) := by rw [cell_of_block bR]; rfl
      have rz := fun o => frozen_of_block (o := o) bR
      clear bX bR hs'
      go_wp2_with fail
      exact bodyPost_ret (v := .agg #[.int .i64 k, .int .i64 g, .int .i64 l, .slice (some ⟨w.heap.size + 1 + 1, 0, none⟩) ts.length ts.length]) (by simp [results, Try.results38, go_sem, r0, r1, r2, r3]) rfl FIN

theorem copyCo_any : ∀ t : Co, CiC t := Co.ind copyCo_of
end Go.Proofs.Ytgekfnodmgkdaaa

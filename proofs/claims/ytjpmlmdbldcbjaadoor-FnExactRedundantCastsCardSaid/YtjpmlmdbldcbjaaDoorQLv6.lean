/- The program's closure that gives casts their labels. -/
import Derived.Test.YtjpmlmdbldcbjaaDoorQLv5
namespace Go.Proofs.YtjpmlmdbldcbjaaDoor
open Go.RowKit

/-- The variable of block Q holds the number of casts that have a label. -/
def CnSt (Q : Nat) (n : Nat) (w : World) : Prop := w.heap[Q]? = some (Obj.cells #[.int .i64 (n : Int)] 3)
theorem CnSt.below {Q S : Nat} (hQ : Q < S) : ∀ n w w', CnSt Q n w → Below S w w' → CnSt Q n w' := fun _ _ _ h hb => (hb.block _ hQ).trans h

theorem bo_cell {Q : Nat} {w : World} {u : Value} : Bo (some Q) w (w.setCell ⟨Q, 0, none⟩ u) := by
  have h := (Below.refl Q w).setCell (p := ⟨Q, 0, none⟩) (Nat.le_refl Q) u
  exact ⟨h.os, h.tape, h.output, h.size, fun i _ hn => Below.heap_setCell _ _ _ _ (fun e => hn (by rw [e]))⟩

theorem lab_close {Q B n : Nat} {w W1 : World} {nm : ByteArray} {num lb : Int} {ty fr : Ty} {ts : List Tm} {k1 k2 : Int} {n1 c1 n2 c2 c3 : Nat} {a1 a2 a3 : Option Addr} {fp : List Nat}
    (hat : (Tm.mk 14 nm num ty fr lb ts).At w (.agg #[.int .i64 14, .string nm, .int .i64 num, .int .i64 k1, .slice a1 n1 c1, .int .i64 k2, .slice a2 n2 c2, .int .i64 lb, .slice a3 ts.length c3]) fp) (hf : Fresh B w fp) (hQB : Q < B) (hBw : B ≤ w.heap.size) (hb : Below w.heap.size w W1) (hQ : W1.heap[Q]? = some (Obj.cells #[.int .i64 (n : Int)] 3)) :
    LfOut (some Q) (CnSt Q) B w (n + 1) (.mk 14 nm num ty fr ((n + 1 : Nat) : Int) ts) (.returned (.agg (Array.mk [.int .i64 14, .string nm, .int .i64 num, .int .i64 k1, .slice a1 n1 c1, .int .i64 k2, .slice a2 n2 c2, .int .i64 ((n : Int) + 1), .slice a3 ts.length c3]))) (put ((W1.setCell ⟨Q, 0, none⟩ (.int .i64 ((n : Int) + 1))).setCell ⟨w.heap.size, 7, none⟩ (.int .i64 ((n : Int) + 1))) (w.heap.size + 1) 0 [.int .i64 14, .string nm, .int .i64 num, .int .i64 k1, .slice a1 n1 c1, .int .i64 k2, .slice a2 n2 c2, .int .i64 ((n : Int) + 1), .slice a3 ts.length c3]) := by
  have hlt := hat.lt
  have hbk : ∀ x, x ≠ Q → x < w.heap.size → (put ((W1.setCell ⟨Q, 0, none⟩ (.int .i64 ((n : Int) + 1))).setCell ⟨w.heap.size, 7, none⟩ (.int .i64 ((n : Int) + 1))) (w.heap.size + 1) 0 [.int .i64 14, .string nm, .int .i64 num, .int .i64 k1, .slice a1 n1 c1, .int .i64 k2, .slice a2 n2 c2, .int .i64 ((n : Int) + 1), .slice a3 ts.length c3]).heap[x]? = w.heap[x]? := by
    intro x hxQ hx
    rw [heap_put_ne (by omega), Below.heap_setCell _ _ _ _ (by simp; omega), Below.heap_setCell _ _ _ _ (by simpa using hxQ), hb.block x hx]
  have hne : ∀ x ∈ fp, x ≠ Q := fun x hx => by have := hf.ge x hx; omega
  have h1 : (Tm.mk 14 nm num ty fr lb ts).At (put ((W1.setCell ⟨Q, 0, none⟩ (.int .i64 ((n : Int) + 1))).setCell ⟨w.heap.size, 7, none⟩ (.int .i64 ((n : Int) + 1))) (w.heap.size + 1) 0 [.int .i64 14, .string nm, .int .i64 num, .int .i64 k1, .slice a1 n1 c1, .int .i64 k2, .slice a2 n2 c2, .int .i64 ((n : Int) + 1), .slice a3 ts.length c3]) (.agg #[.int .i64 14, .string nm, .int .i64 num, .int .i64 k1, .slice a1 n1 c1, .int .i64 k2, .slice a2 n2 c2, .int .i64 lb, .slice a3 ts.length c3]) fp := hat.congr fun x hx o => World.cell?_of_block (w := w) (a := ⟨x, o, none⟩) (hbk x (hne x hx) (hlt x hx))
  obtain ⟨k1', s1, k2', s2, s, f1, f2, f3, hv, hnm, ht1, ht2, rfl, hs⟩ := Tm.at_mk.1 h1
  simp only [Value.agg.injEq, Array.mk.injEq, List.cons.injEq, true_and, and_true] at hv
  obtain ⟨rfl, rfl, rfl, rfl, rfl⟩ := hv
  have hbo : Bo (some Q) w (put ((W1.setCell ⟨Q, 0, none⟩ (.int .i64 ((n : Int) + 1))).setCell ⟨w.heap.size, 7, none⟩ (.int .i64 ((n : Int) + 1))) (w.heap.size + 1) 0 [.int .i64 14, .string nm, .int .i64 num, .int .i64 k1, .slice a1 n1 c1, .int .i64 k2, .slice a2 n2 c2, .int .i64 ((n : Int) + 1), .slice a3 ts.length c3]) := ((Bo.of_below hb).trans bo_cell).trans_below (below_put ((Below.refl w.heap.size (W1.setCell ⟨Q, 0, none⟩ (.int .i64 ((n : Int) + 1)))).setCell (p := ⟨w.heap.size, 7, none⟩) (by simp) _) (by omega)) (Nat.le_refl _)
  refine ⟨_, _, rfl, Tm.at_mk.2 ⟨_, _, _, _, _, f1, f2, f3, rfl, hnm, ht1, ht2, rfl, hs⟩, ⟨hf.1, fun b hb' => ⟨hf.ge b hb', Nat.lt_of_lt_of_le (hlt b hb') hbo.size, fun o => (World.frozen?_of_block (w := w) (a := ⟨b, o, none⟩) (hbk b (hne b hb') (hlt b hb'))).trans ((hf.2 b hb').2.2 o)⟩⟩, hbo, ?_⟩
  have hQw : Q < w.heap.size := by omega
  show (put ((W1.setCell ⟨Q, 0, none⟩ (.int .i64 ((n : Int) + 1))).setCell ⟨w.heap.size, 7, none⟩ (.int .i64 ((n : Int) + 1))) (w.heap.size + 1) 0 [.int .i64 14, .string nm, .int .i64 num, .int .i64 k1, .slice a1 n1 c1, .int .i64 k2, .slice a2 n2 c2, .int .i64 ((n : Int) + 1), .slice a3 ts.length c3]).heap[Q]? = _
  rw [heap_put_ne (by omega), Below.heap_setCell _ _ _ _ (by simp; omega), heap_setCell_at hQ]
  rfl

set_option linter.unusedVariables false in
set_option linter.unusedSimpArgs false in
set_option maxRecDepth 100000 in
set_option maxHeartbeats 4000000 in
theorem label_lf (Q S0 : Nat) (hQ : Q < S0) : LfC 40 #[.pointer (some ⟨Q, 0, none⟩)] (some Q) S0 (CnSt Q) nxL chL12 := by
  intro n t v fp B w hat hf hSB hBw hg hn hst
  have hlt := hat.lt
  obtain ⟨k, nm, num, ty, fr, lb, ts, rfl⟩ := t.shape
  obtain ⟨k1, n1, a1, c1, k2, n2, a2, c2, a3, c3, f1, f2, f3, rfl, hnm, ht1, ht2, hfp, hs⟩ := hat.parts
  clear ht1 ht2 hs hnm hg
  have hn0 : (0 : Int) ≤ (n : Int) := by omega
  have hn1 : (n : Int) + 1 ≤ 4194305 := by omega
  simp only [kdM]
  by_cases hk : k = 14
  · subst hk
    rw [show nxL n 14 = n + 1 from rfl, show chL12 n (.mk 14 nm num ty fr lb ts) = .mk 14 nm num ty fr ((n + 1 : Nat) : Int) ts from by simp [chL12]]
    have hb0 : Below w.heap.size w ((w.alloc (Obj.cells #[.int .i64 14, .string nm, .int .i64 num, .int .i64 k1, .slice a1 n1 c1, .int .i64 k2, .slice a2 n2 c2, .int .i64 lb, .slice a3 ts.length c3] 34)).alloc (Obj.cells #[.int .i64 0, .string ⟨#[]⟩, .int .i64 0, .int .i64 0, .slice none 0 0, .int .i64 0, .slice none 0 0, .int .i64 0, .slice none 0 0] 34)) := ((Below.refl _ _).alloc (Nat.le_refl _) _).alloc (by simp) _
    have hs0 : ((w.alloc (Obj.cells #[.int .i64 14, .string nm, .int .i64 num, .int .i64 k1, .slice a1 n1 c1, .int .i64 k2, .slice a2 n2 c2, .int .i64 lb, .slice a3 ts.length c3] 34)).alloc (Obj.cells #[.int .i64 0, .string ⟨#[]⟩, .int .i64 0, .int .i64 0, .slice none 0 0, .int .i64 0, .slice none 0 0, .int .i64 0, .slice none 0 0] 34)).heap.size = w.heap.size + 1 + 1 := by simp
    obtain ⟨hB0, hZ0⟩ := two_out (Below.refl ((w.alloc (Obj.cells #[.int .i64 14, .string nm, .int .i64 num, .int .i64 k1, .slice a1 n1 c1, .int .i64 k2, .slice a2 n2 c2, .int .i64 lb, .slice a3 ts.length c3] 34)).alloc (Obj.cells #[.int .i64 0, .string ⟨#[]⟩, .int .i64 0, .int .i64 0, .slice none 0 0, .int .i64 0, .slice none 0 0, .int .i64 0, .slice none 0 0] 34)).heap.size ((w.alloc (Obj.cells #[.int .i64 14, .string nm, .int .i64 num, .int .i64 k1, .slice a1 n1 c1, .int .i64 k2, .slice a2 n2 c2, .int .i64 lb, .slice a3 ts.length c3] 34)).alloc (Obj.cells #[.int .i64 0, .string ⟨#[]⟩, .int .i64 0, .int .i64 0, .slice none 0 0, .int .i64 0, .slice none 0 0, .int .i64 0, .slice none 0 0] 34)))
    have hQ0 : ((w.alloc (Obj.cells #[.int .i64 14, .string nm, .int .i64 num, .int .i64 k1, .slice a1 n1 c1, .int .i64 k2, .slice a2 n2 c2, .int .i64 lb, .slice a3 ts.length c3] 34)).alloc (Obj.cells #[.int .i64 0, .string ⟨#[]⟩, .int .i64 0, .int .i64 0, .slice none 0 0, .int .i64 0, .slice none 0 0, .int .i64 0, .slice none 0 0] 34)).heap[Q]? = some (Obj.cells #[.int .i64 (n : Int)] 3) := blk hst hb0
    have HAT := hid hat
    have HF := hid hf
    have HST := hid hst
    clear hat hf hst
    go_enter Tryd.func40, Tryd.ntmps40
    go_upto_region 1 with (fail)
    generalize ((w.alloc (Obj.cells #[.int .i64 14, .string nm, .int .i64 num, .int .i64 k1, .slice a1 n1 c1, .int .i64 k2, .slice a2 n2 c2, .int .i64 lb, .slice a3 ts.length c3] 34)).alloc (Obj.cells #[.int .i64 0, .string ⟨#[]⟩, .int .i64 0, .int .i64 0, .slice none 0 0, .int .i64 0, .slice none 0 0, .int .i64 0, .slice none 0 0] 34)) = W1 at hB0 hZ0 hb0 hs0 hQ0 ⊢
    obtain ⟨x0, x1, x2, x3, x4, x5, x6, x7, x8⟩ := cells9 hB0
    obtain ⟨y0, y1, y2, y3, y4, y5, y6, y7, y8⟩ := cells9 hZ0
    have xz := fun o => frozen_of_block (o := o) hB0
    have yz := fun o => frozen_of_block (o := o) hZ0
    have hM := lt_of_block hZ0
    have q0 : W1.cell? ⟨Q, 0, none⟩ = some (.int .i64 (n : Int)) := by rw [cell_of_block hQ0]; rfl
    have qz := fun o => frozen_of_block (o := o) hQ0
    have FIN := hid (lab_close HAT.out HF.out (by omega) hBw hb0 hQ0)
    simp only [put, Nat.zero_add, Nat.reduceAdd] at FIN
    clear hB0 hZ0 hQ0
    have hQM : Q ≠ w.heap.size := by omega
    have hQM1 : Q ≠ w.heap.size + 1 := by omega
    go_wp2_with fail
    exact bodyPost_ret (v := .agg (Array.mk [.int .i64 14, .string nm, .int .i64 num, .int .i64 k1, .slice a1 n1 c1, .int .i64 k2, .slice a2 n2 c2, .int .i64 ((n : Int) + 1), .slice a3 ts.length c3])) (by simp [results, Tryd.results40, go_sem, y0, y1, y2, y3, y4, y5, y6, y7, y8]) rfl FIN.out
  · rw [show nxL n k = n from by simp [nxL, hk], show chL12 n (.mk k nm num ty fr lb ts) = .mk k nm num ty fr lb ts from by simp [chL12, hk]]
    have hk' : (k == 14) = false := by simpa using hk
    have hb0 : Below w.heap.size w ((w.alloc (Obj.cells #[.int .i64 k, .string nm, .int .i64 num, .int .i64 k1, .slice a1 n1 c1, .int .i64 k2, .slice a2 n2 c2, .int .i64 lb, .slice a3 ts.length c3] 34)).alloc (Obj.cells #[.int .i64 0, .string ⟨#[]⟩, .int .i64 0, .int .i64 0, .slice none 0 0, .int .i64 0, .slice none 0 0, .int .i64 0, .slice none 0 0] 34)) := ((Below.refl _ _).alloc (Nat.le_refl _) _).alloc (by simp) _
    have hs0 : ((w.alloc (Obj.cells #[.int .i64 k, .string nm, .int .i64 num, .int .i64 k1, .slice a1 n1 c1, .int .i64 k2, .slice a2 n2 c2, .int .i64 lb, .slice a3 ts.length c3] 34)).alloc (Obj.cells #[.int .i64 0, .string ⟨#[]⟩, .int .i64 0, .int .i64 0, .slice none 0 0, .int .i64 0, .slice none 0 0, .int .i64 0, .slice none 0 0] 34)).heap.size = w.heap.size + 1 + 1 := by simp
    obtain ⟨hB0, hZ0⟩ := two_out (Below.refl ((w.alloc (Obj.cells #[.int .i64 k, .string nm, .int .i64 num, .int .i64 k1, .slice a1 n1 c1, .int .i64 k2, .slice a2 n2 c2, .int .i64 lb, .slice a3 ts.length c3] 34)).alloc (Obj.cells #[.int .i64 0, .string ⟨#[]⟩, .int .i64 0, .int .i64 0, .slice none 0 0, .int .i64 0, .slice none 0 0, .int .i64 0, .slice none 0 0] 34)).heap.size ((w.alloc (Obj.cells #[.int .i64 k, .string nm, .int .i64 num, .int .i64 k1, .slice a1 n1 c1, .int .i64 k2, .slice a2 n2 c2, .int .i64 lb, .slice a3 ts.length c3] 34)).alloc (Obj.cells #[.int .i64 0, .string ⟨#[]⟩, .int .i64 0, .int .i64 0, .slice none 0 0, .int .i64 0, .slice none 0 0, .int .i64 0, .slice none 0 0] 34)))
    have hQ0 : ((w.alloc (Obj.cells #[.int .i64 k, .string nm, .int .i64 num, .int .i64 k1, .slice a1 n1 c1, .int .i64 k2, .slice a2 n2 c2, .int .i64 lb, .slice a3 ts.length c3] 34)).alloc (Obj.cells #[.int .i64 0, .string ⟨#[]⟩, .int .i64 0, .int .i64 0, .slice none 0 0, .int .i64 0, .slice none 0 0, .int .i64 0, .slice none 0 0] 34)).heap[Q]? = some (Obj.cells #[.int .i64 (n : Int)] 3) := blk hst hb0
    have HAT := hid hat
    have HF := hid hf
    have HST := hid hst
    clear hat hf hst
    go_enter Tryd.func40, Tryd.ntmps40
    go_upto_region 1 with (fail)
    generalize ((w.alloc (Obj.cells #[.int .i64 k, .string nm, .int .i64 num, .int .i64 k1, .slice a1 n1 c1, .int .i64 k2, .slice a2 n2 c2, .int .i64 lb, .slice a3 ts.length c3] 34)).alloc (Obj.cells #[.int .i64 0, .string ⟨#[]⟩, .int .i64 0, .int .i64 0, .slice none 0 0, .int .i64 0, .slice none 0 0, .int .i64 0, .slice none 0 0] 34)) = W1 at hB0 hZ0 hb0 hs0 hQ0 ⊢
    obtain ⟨x0, x1, x2, x3, x4, x5, x6, x7, x8⟩ := cells9 hB0
    obtain ⟨y0, y1, y2, y3, y4, y5, y6, y7, y8⟩ := cells9 hZ0
    have xz := fun o => frozen_of_block (o := o) hB0
    have yz := fun o => frozen_of_block (o := o) hZ0
    have hM := lt_of_block hZ0
    have q0 : W1.cell? ⟨Q, 0, none⟩ = some (.int .i64 (n : Int)) := by rw [cell_of_block hQ0]; rfl
    have qz := fun o => frozen_of_block (o := o) hQ0
    have FIN := hid (show LfOut (some Q) (CnSt Q) B w n (.mk k nm num ty fr lb ts) (.returned (.agg (Array.mk [.int .i64 k, .string nm, .int .i64 num, .int .i64 k1, .slice a1 n1 c1, .int .i64 k2, .slice a2 n2 c2, .int .i64 lb, .slice a3 ts.length c3]))) (put W1 (w.heap.size + 1) 0 [.int .i64 k, .string nm, .int .i64 num, .int .i64 k1, .slice a1 n1 c1, .int .i64 k2, .slice a2 n2 c2, .int .i64 lb, .slice a3 ts.length c3]) from ⟨_, _, rfl, (HAT.out.below hb0).congr fun x hx o => World.cell?_of_block (w := W1) (a := ⟨x, o, none⟩) (heap_put_ne (show x ≠ w.heap.size + 1 by have := hlt x hx; omega)), (HF.out.below hb0).putne (fun x hx => by have := hlt x hx; omega), Bo.of_below (below_put hb0 (by omega)), (heap_put_ne (show Q ≠ w.heap.size + 1 by omega)).trans hQ0⟩)
    simp only [put, Nat.zero_add, Nat.reduceAdd] at FIN
    clear hB0 hZ0 hQ0
    go_wp2_with fail
    exact bodyPost_ret (v := .agg (Array.mk [.int .i64 k, .string nm, .int .i64 num, .int .i64 k1, .slice a1 n1 c1, .int .i64 k2, .slice a2 n2 c2, .int .i64 lb, .slice a3 ts.length c3])) (by simp [results, Tryd.results40, go_sem, y0, y1, y2, y3, y4, y5, y6, y7, y8]) rfl FIN.out

theorem callOk_lab : CallOkT 40 := fun _ _ => by kernel_rfl
end Go.Proofs.YtjpmlmdbldcbjaaDoor

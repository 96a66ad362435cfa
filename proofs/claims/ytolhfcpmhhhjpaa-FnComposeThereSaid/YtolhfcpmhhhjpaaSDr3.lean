/- Draws: a valid type of any depth (l1Type); a drawn type stored into the result's cell. -/
import Derived.Test.YtolhfcpmhhhjpaaSDr2
import Derived.Test.YtolhfcpmhhhjpaaSG1
namespace Go.Proofs.Ytolhfcpmhhhjpaa
open Go.RowKit

theorem dr_close {w w2 : World} {M q R lo : Nat} {t : Ty} {x y : Value} {fp : List Nat} (hat : t.At w2 (.agg #[x, y]) fp) (hf : Fresh lo w2 fp) (hR : RdAt M q w2) (hW : Rw M w w2) (hMw : M < w.heap.size) (hRb : w.heap.size ≤ R) (hlo : R < lo) :
    t.At ((w2.setCell ⟨R, 0, none⟩ x).setCell ⟨R, 1, none⟩ y) (.agg #[x, y]) fp ∧ Fresh w.heap.size ((w2.setCell ⟨R, 0, none⟩ x).setCell ⟨R, 1, none⟩ y) fp ∧ RdAt M q ((w2.setCell ⟨R, 0, none⟩ x).setCell ⟨R, 1, none⟩ y) ∧ Rw M w ((w2.setCell ⟨R, 0, none⟩ x).setCell ⟨R, 1, none⟩ y) := by
  have hab := ((Above.refl lo w2).setCell (p := ⟨R, 0, none⟩) hlo x).setCell (p := ⟨R, 1, none⟩) hlo y
  have hbb := ((Below.refl w.heap.size w2).setCell (p := ⟨R, 0, none⟩) hRb x).setCell (p := ⟨R, 1, none⟩) hRb y
  exact ⟨hat.above hab hf.ge, (hf.above hab (Nat.le_refl _)).mono (by omega), hR.below1 (hbb.mono (by omega)), hW.tail hbb hMw⟩

theorem shp_up8 : ∀ {d e : Nat} {t : Ty}, d ≤ e → shp d t = true → shp e t = true
  | 0, _, _, _, h => by simp [shp] at h
  | d + 1, 0, _, hde, _ => by omega
  | d + 1, e + 1, .mk k ts, hde, h => by
    simp only [shp, Bool.and_eq_true, List.all_eq_true] at h ⊢
    exact ⟨h.1, fun t ht => shp_up8 (by omega) (h.2 t ht)⟩

theorem two9 {w wr : World} {o1 o2 : Obj} (h : Below ((w.alloc o1).alloc o2).heap.size ((w.alloc o1).alloc o2) wr) : wr.heap[w.heap.size]? = some o1 ∧ wr.heap[w.heap.size + 1]? = some o2 := by
  have h1 : (w.alloc o1).heap.size = w.heap.size + 1 := by simp
  refine ⟨(h.block _ (by simp; omega)).trans ((Below.heap_alloc _ _ _ (by simp)).trans (alloc_new _ _)), (h.block _ (by simp)).trans ?_⟩
  rw [← h1]
  exact alloc_new _ _

theorem cnt_shp4 {t : Ty} (h : shp 4 t = true) : t.cnt ≤ 30 := by
  have h1 := shp_small8 h
  omega

set_option maxRecDepth 100000 in
set_option maxHeartbeats 1000000 in
theorem l1Type_any (M q : Nat) (w : World) (hR0 : RdAt M q w) (hq : q + 100 ≤ 1000000) : Calls Try.prog 57 #[.pointer (some ⟨M, 0, none⟩)] w (DrawX M (q + 100) w (fun t => shp 4 t = true)) := by
  have hMw := hR0.lt
  have hbA : Below w.heap.size w ((w.alloc (Obj.cells #[.int .i64 0, .slice none 0 0] 25)).alloc (Obj.cells #[.int .i64 3, .int .i64 2, .int .i64 4, .int .i64 1, .int .i64 3] 3)) := ((Below.refl _ _).alloc (Nat.le_refl _) _).alloc (by simp) _
  have hW0 := Rw.of_below hbA hMw
  have hE0 : ((w.alloc (Obj.cells #[.int .i64 0, .slice none 0 0] 25)).alloc (Obj.cells #[.int .i64 3, .int .i64 2, .int .i64 4, .int .i64 1, .int .i64 3] 3)).heap[w.heap.size]? = some (Obj.cells #[.int .i64 0, .slice none 0 0] 25) := (Below.heap_alloc _ _ _ (by simp)).trans (alloc_new _ _)
  have hE1 : ((w.alloc (Obj.cells #[.int .i64 0, .slice none 0 0] 25)).alloc (Obj.cells #[.int .i64 3, .int .i64 2, .int .i64 4, .int .i64 1, .int .i64 3] 3)).heap[w.heap.size + 1]? = some (Obj.cells #[.int .i64 3, .int .i64 2, .int .i64 4, .int .i64 1, .int .i64 3] 3) := by
    have := alloc_new (w.alloc (Obj.cells #[.int .i64 0, .slice none 0 0] 25)) (Obj.cells #[.int .i64 3, .int .i64 2, .int .i64 4, .int .i64 1, .int .i64 3] 3)
    simpa using this
  have HN := hid (num_any M q (w.heap.size + 1) [3, 2, 4, 1, 3] _ (hR0.rw hbA) (by omega) (by omega) (fun j hj => by
    rw [cell_of_block hE1]
    have : j = 0 ∨ j = 1 ∨ j = 2 ∨ j = 3 ∨ j = 4 := by simp at hj; omega
    rcases this with rfl | rfl | rfl | rfl | rfl <;> rfl) (by simp) (by simp))
  clear hbA hR0 hE1
  go_enter Try.func57, Try.ntmps57
  go_wp2_with fail
  refine HN.out.mono ?_
  rintro e w1 ⟨k0, rfl, hk0, hR1, hW1⟩
  obtain ⟨d, rfl, hd1, hd4⟩ : ∃ d : Nat, k0 = d ∧ 1 ≤ d ∧ d ≤ 4 := by
    simp only [List.mem_cons, List.not_mem_nil, or_false] at hk0
    exact ⟨k0.toNat, by omega, by omega, by omega⟩
  have h81 : 3 ^ d ≤ 81 := by
    have : d = 1 ∨ d = 2 ∨ d = 3 ∨ d = 4 := by omega
    rcases this with rfl | rfl | rfl | rfl <;> decide
  have HD := hid (l1Draw_any d hd1 hd4 M (q + 1) w1 hR1 (by omega))
  have hW01 := hW0.trans hW1
  have hE := hW1.block hE0 (by omega)
  have hs := hW1.size
  simp at hs
  clear hk0 hR1 hW1 hE0 hW0
  go_wp2_with fail
  refine HD.out.mono ?_
  rintro e w2 ⟨t, v, fp, rfl, ht, hat, hf, hR2, hW2⟩
  obtain ⟨k, n, a, c, rfl⟩ := hat.agg
  have hE2 := hW2.block hE (by omega)
  have r0 : w2.cell? ⟨w.heap.size, 0, none⟩ = some (.int .i64 0) := by rw [cell_of_block hE2]; rfl
  have r1 : w2.cell? ⟨w.heap.size, 1, none⟩ = some (.slice none 0 0) := by rw [cell_of_block hE2]; rfl
  have rz : ∀ o, w2.frozen? ⟨w.heap.size, o, none⟩ = false := fun o => frozen_of_block hE2
  have HF := hid (dr_close (R := w.heap.size) hat hf (hR2.mono (q' := q + 100) (by omega)) (hW01.trans hW2) hMw (Nat.le_refl _) (by omega))
  have HS := hid (shp_up8 (d := d) (e := 4) hd4 ht)
  clear hat hf hR2 hW2 hE2 hE hW01 ht h81
  go_wp2_with fail
  exact bodyPost_ret (v := .agg #[.int .i64 k, .slice a n c]) (by simp [results, Try.results57, go_sem, r0, r1]) rfl ⟨t, _, fp, rfl, HS.out, HF.out.1, HF.out.2.1, HF.out.2.2.1, HF.out.2.2.2⟩
end Go.Proofs.Ytolhfcpmhhhjpaa

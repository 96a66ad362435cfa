/- TypeSame, of the specification. -/
import Derived.Test.YtephhhnoobkbhaaCEq
namespace Go.Proofs.Ytephhhnoobkbhaa
open Go.RowKit

theorem second_new (w : World) (X Y : Obj) : ((w.alloc X).alloc Y).heap[w.heap.size + 1]? = some Y := by
  have hs : (w.alloc X).heap.size = w.heap.size + 1 := by simp
  rw [← hs]
  exact alloc_new _ _

theorem boxes44 {w wr : World} {x y z u x' y' z' u' : Value} {T T' : TypeId} (h : Below ((w.alloc (Obj.cells #[x, y, z, u] T)).alloc (Obj.cells #[x', y', z', u'] T')).heap.size ((w.alloc (Obj.cells #[x, y, z, u] T)).alloc (Obj.cells #[x', y', z', u'] T')) wr) :
    wr.heap[w.heap.size]? = some (Obj.cells #[x, y, z, u] T) ∧ wr.heap[w.heap.size + 1]? = some (Obj.cells #[x', y', z', u'] T') := by
  refine ⟨(h.block w.heap.size (by simp; omega)).trans ((Below.heap_alloc _ _ _ (by simp)).trans (alloc_new w _)), ?_⟩
  rw [h.block (w.heap.size + 1) (by simp)]
  exact second_new _ _ _

theorem blkM {w w' : World} {M : Nat} {o : Obj} (h : w.heap[M]? = some o) (hb : Below w.heap.size w w') : w'.heap[M]? = some o := (hb.block _ (lt_of_block h)).trans h

theorem alloc2 {w w' : World} {o o' : Obj} (h : Below ((w.alloc o).alloc o').heap.size ((w.alloc o).alloc o') w') : Below w.heap.size w w' := alloc1 (alloc1 h)

def CsmC (t : Co) : Prop := ∀ (u : Co) (v1 v2 : Value) (f1 f2 : List Nat) (w : World), t.At w v1 f1 → u.At w v2 f2 →
  Calls Try.prog 31 #[v1, v2] w fun e w' => e = .returned (.bool (coEq t u)) ∧ Below w.heap.size w w'

set_option maxHeartbeats 800000 in
set_option maxRecDepth 100000 in
theorem specCoercionSame_of (k g l : Int) (ts : List Co) (ih : ∀ t ∈ ts, CsmC t) : CsmC (.mk k g l ts) := by
  intro u v1 v2 f1 f2 w h1 h2
  have HIH := hid ih
  clear ih
  obtain ⟨k', g', l', us, rfl⟩ := u.shape
  obtain ⟨s1, rfl, hs1⟩ := Co.at_mk.1 h1
  obtain ⟨s2, rfl, hs2⟩ := Co.at_mk.1 h2
  obtain ⟨a, cap, rfl, hc, hm, hget⟩ := hs1.open
  have HG := hid hget
  obtain ⟨a2, cap2, rfl, hc2, hm2, hget2⟩ := hs2.open
  have HG2 := hid hget2
  clear hget hget2 hs1 hs2 h1 h2
  have hal : Below w.heap.size w ((w.alloc (Obj.cells #[.int .i64 k, .int .i64 g, .int .i64 l, .slice a ts.length cap] 52)).alloc (Obj.cells #[.int .i64 k', .int .i64 g', .int .i64 l', .slice a2 us.length cap2] 52)) := ((Below.refl _ _).alloc (Nat.le_refl _) _).alloc (by simp) _
  have HAL := hid hal
  clear hal
  by_cases hkk : k = k'
  case neg =>
    have HT := hid (show coEq (.mk k g l ts) (.mk k' g' l' us) = false by simp [coEq, hkk])
    have hk1 : (k == k') = false := by simpa using hkk
    have hk2 : (k != k') = true := by simpa using hkk
    clear hkk
    go_enter Try.func31, Try.ntmps31
    go_wp2_with fail
    go_ret
    exact ⟨ret_b HT.out.symm, HAL.out⟩
  subst hkk
  by_cases hgg : g = g'
  case neg =>
    have HT := hid (show coEq (.mk k g l ts) (.mk k g' l' us) = false by simp [coEq, hgg])
    have hk1 : (g == g') = false := by simpa using hgg
    have hk2 : (g != g') = true := by simpa using hgg
    clear hgg
    go_enter Try.func31, Try.ntmps31
    go_wp2_with fail
    go_ret
    exact ⟨ret_b HT.out.symm, HAL.out⟩
  subst hgg
  by_cases hll : l = l'
  case neg =>
    have HT := hid (show coEq (.mk k g l ts) (.mk k g l' us) = false by simp [coEq, hll])
    have hk1 : (l == l') = false := by simpa using hll
    have hk2 : (l != l') = true := by simpa using hll
    clear hll
    go_enter Try.func31, Try.ntmps31
    go_wp2_with fail
    go_ret
    exact ⟨ret_b HT.out.symm, HAL.out⟩
  subst hll
  by_cases hl : ts.length = us.length
  case neg =>
    have HT := hid (show coEq (.mk k g l ts) (.mk k g l us) = false by simp [coEq, coEqL_len hl])
    have hl1 : ((ts.length : Int) != (us.length : Int)) = true := by simp; omega
    have hl2 : ((ts.length : Int) == (us.length : Int)) = false := by simp; omega
    clear hl
    go_enter Try.func31, Try.ntmps31
    go_wp2_with fail
    go_ret
    exact ⟨ret_b HT.out.symm, HAL.out⟩
  have HT := hid (show coEq (.mk k g l ts) (.mk k g l us) = coEqL ts us by simp [coEq])
  have hl1 : ((ts.length : Int) != (us.length : Int)) = false := by simp; omega
  have hl2 : ((ts.length : Int) == (us.length : Int)) = true := by simp; omega
  have HL := hid hl
  clear hl
  go_enter Try.func31, Try.ntmps31
  go_wp2_with fail
  go_loopw [5] (fun i wr => ∃ j : Nat, j ≤ ts.length ∧ i = .int .i64 j ∧ coEqL (ts.drop j) (us.drop j) = coEqL ts us ∧ Below ((w.alloc (Obj.cells #[.int .i64 k, .int .i64 g, .int .i64 l, .slice a ts.length cap] 52)).alloc (Obj.cells #[.int .i64 k, .int .i64 g, .int .i64 l, .slice a2 us.length cap2] 52)).heap.size ((w.alloc (Obj.cells #[.int .i64 k, .int .i64 g, .int .i64 l, .slice a ts.length cap] 52)).alloc (Obj.cells #[.int .i64 k, .int .i64 g, .int .i64 l, .slice a2 us.length cap2] 52)) wr) (fun i _ => ts.length - (intOf i).toNat)
  case atStart => exact ⟨0, Nat.zero_le _, rfl, rfl, Below.refl _ _⟩
  case round =>
    obtain ⟨j, hj, rfl, hdr, hb⟩ := hrel
    have HD := hid hdr
    clear hdr
    obtain ⟨bx1, bx2⟩ := boxes44 hb
    have x0 : wr.cell? ⟨w.heap.size, 0, none⟩ = some (.int .i64 k) := by rw [cell_of_block bx1]; rfl
    have x1 : wr.cell? ⟨w.heap.size, 1, none⟩ = some (.int .i64 g) := by rw [cell_of_block bx1]; rfl
    have x2 : wr.cell? ⟨w.heap.size, 2, none⟩ = some (.int .i64 l) := by rw [cell_of_block bx1]; rfl
    have x3 : wr.cell? ⟨w.heap.size, 3, none⟩ = some (.slice a ts.length cap) := by rw [cell_of_block bx1]; rfl
    have x4 : wr.cell? ⟨w.heap.size + 1, 0, none⟩ = some (.int .i64 k) := by rw [cell_of_block bx2]; rfl
    have x5 : wr.cell? ⟨w.heap.size + 1, 1, none⟩ = some (.int .i64 g) := by rw [cell_of_block bx2]; rfl
    have x6 : wr.cell? ⟨w.heap.size + 1, 2, none⟩ = some (.int .i64 l) := by rw [cell_of_block bx2]; rfl
    have x7 : wr.cell? ⟨w.heap.size + 1, 3, none⟩ = some (.slice a2 us.length cap2) := by rw [cell_of_block bx2]; rfl
    clear bx1 bx2
    by_cases hlk : j < ts.length
    · have hlk2 : j < us.length := by have := HL.out; omega
      obtain ⟨b, o, k1, g1, l1, n1, a1, cap1, f3, rfl, hblt, c0, c1, c2, c3, hat, hf⟩ := HG.out j hlk
      obtain ⟨b2, o2, k3, g3, l3, n3, a3, cap3, f4, rfl, hblt2, e0, e1, e2, e3, hat2, hf2⟩ := HG2.out j hlk2
      have hbw := alloc2 hb
      have d0 := (hbw.cell (p := ⟨b, o + j * 4, none⟩) hblt).trans c0
      have d1 := (hbw.cell (p := ⟨b, o + j * 4 + 1, none⟩) hblt).trans c1
      have d2 := (hbw.cell (p := ⟨b, o + j * 4 + 2, none⟩) hblt).trans c2
      have d3 := (hbw.cell (p := ⟨b, o + j * 4 + 3, none⟩) hblt).trans c3
      have d4 := (hbw.cell (p := ⟨b2, o2 + j * 4, none⟩) hblt2).trans e0
      have d5 := (hbw.cell (p := ⟨b2, o2 + j * 4 + 1, none⟩) hblt2).trans e1
      have d6 := (hbw.cell (p := ⟨b2, o2 + j * 4 + 2, none⟩) hblt2).trans e2
      have d7 := (hbw.cell (p := ⟨b2, o2 + j * 4 + 3, none⟩) hblt2).trans e3
      clear c0 c1 c2 c3 e0 e1 e2 e3
      have HST := hid (coEqL_step hlk hlk2)
      go_wp2_with fail
      go_still_tail 10, (by kernel_rfl)
      go_wp2_with fail
      refine (HIH.out _ (List.getElem_mem hlk) _ _ _ _ _ _ (hat.below ?_) (hat2.below ?_)).mono ?_
      · exact hbw.drew
      · exact hbw.drew
      rintro e w1 ⟨rfl, hb1⟩
      have hbb := hb.trans ((below_trans (below_drew wr) hb1).mono hb.size)
      clear hb hb1 hat hat2 d0 d1 d2 d3 d4 d5 d6 d7 hbw
      generalize coEq ts[j] us[j] = r at *
      cases r
      · go_wp2_with fail
        go_ret
        exact ⟨ret_b (by rw [HT.out, ← HD.out, HST.out, Bool.false_and]), alloc2 hbb⟩
      · go_wp2_with fail
        go_roundw
        case rel => exact ⟨j + 1, by omega, by go_num, by rw [← HD.out, HST.out, Bool.true_and], hbb⟩
        case measure => simp [intOf]; omega
    · go_wp2_with fail
      go_ret
      exact ⟨ret_b (by rw [HT.out, ← HD.out, List.drop_of_length_le (by omega), List.drop_of_length_le (by have := HL.out; omega)]; simp only [coEqL]), alloc2 hb⟩

theorem specCoercionSame : ∀ t : Co, CsmC t := Co.ind specCoercionSame_of

end Go.Proofs.Ytephhhnoobkbhaa

/- The laws' own helper eqTerm at two readings of one term. -/
import Derived.Test.YtbmlodikfmpfoaaDoorMTo
import Derived.Test.YtbmlodikfmpfoaaDoorEq
namespace Go.Proofs.YtbmlodikfmpfoaaDoor
open Go.RowKit

/-- Two blocks that have just been made. -/
theorem two_out {w wr : World} {o1 o2 : Obj} (h : Below ((w.alloc o1).alloc o2).heap.size ((w.alloc o1).alloc o2) wr) :
    wr.heap[w.heap.size]? = some o1 ∧ wr.heap[w.heap.size + 1]? = some o2 := by
  refine ⟨?_, ?_⟩
  · rw [h.block _ (by simp; omega), Below.heap_alloc _ _ _ (by simp)]
    exact alloc_new _ _
  · rw [h.block _ (by simp)]
    have := alloc_new (w.alloc o1) o2
    simpa using this

def EqMC (t : Tm) : Prop := ∀ (v1 v2 : Value) (f1 f2 : List Nat) (w : World), t.At w v1 f1 → t.At w v2 f2 →
  Calls Tryd.prog 17 #[v1, v2] w fun e w' => e = .returned (.bool true) ∧ Below w.heap.size w w'

def EqMSC (ts : List Tm) : Prop := ∀ (s1 s2 : Value) (f1 f2 : List Nat) (w : World), SmAt w ts s1 f1 → SmAt w ts s2 f2 →
  Calls Tryd.prog 62 #[s1, s2] w fun e w' => e = .returned (.bool true) ∧ Below w.heap.size w w'

set_option maxHeartbeats 2000000 in
theorem eqTerm_of (k : Int) (nm : ByteArray) (num : Int) (ty fr : Ty) (lb : Int) (ts : List Tm) (ih : EqMSC ts) : EqMC (.mk k nm num ty fr lb ts) := by
  intro v1 v2 f1 f2 w h1 h2
  obtain ⟨k1, n1, a1, c1, k2, n2, a2, c2, a3, c3, g1, g2, g3, rfl, hnm, ht1, ht2, rfl, hs⟩ := h1.parts
  obtain ⟨k1', n1', a1', c1', k2', n2', a2', c2', a3', c3', g1', g2', g3', rfl, hnm', hu1, hu2, rfl, hs'⟩ := h2.parts
  have HIH := hid ih
  clear ih h1 h2
  have hal : Below w.heap.size w ((w.alloc (Obj.cells #[.int .i64 k, .string nm, .int .i64 num, .int .i64 k1, .slice a1 n1 c1, .int .i64 k2, .slice a2 n2 c2, .int .i64 lb, .slice a3 ts.length c3] 34)).alloc
      (Obj.cells #[.int .i64 k, .string nm, .int .i64 num, .int .i64 k1', .slice a1' n1' c1', .int .i64 k2', .slice a2' n2' c2', .int .i64 lb, .slice a3' ts.length c3'] 34)) := ((Below.refl _ _).alloc (Nat.le_refl _) _).alloc (by simp) _
  go_enter Tryd.func17, Tryd.ntmps17
  go_wp2_with fail
  refine (eqType_any ty ty _ _ _ _ _ (ht1.below hal) (hu1.below hal)).mono ?_
  rw [tyEq_refl]
  rintro e w1 ⟨rfl, hb1⟩
  obtain ⟨hA, hB⟩ := two_out hb1
  have b1 := below_trans hal hb1
  clear hal hb1
  obtain ⟨x0, x1, x2, x3, x4, x5, x6, x7, x8⟩ := cells9 hA
  obtain ⟨y0, y1, y2, y3, y4, y5, y6, y7, y8⟩ := cells9 hB
  go_wp2_with fail
  refine (eqType_any fr fr _ _ _ _ _ (ht2.below b1) (hu2.below b1)).mono ?_
  rw [tyEq_refl]
  rintro e w2 ⟨rfl, hb2⟩
  clear x0 x1 x2 x3 x4 x5 x6 x7 x8 y0 y1 y2 y3 y4 y5 y6 y7 y8
  replace hA := blk hA hb2
  replace hB := blk hB hb2
  have b2 := below_trans b1 hb2
  obtain ⟨x0, x1, x2, x3, x4, x5, x6, x7, x8⟩ := cells9 hA
  obtain ⟨y0, y1, y2, y3, y4, y5, y6, y7, y8⟩ := cells9 hB
  clear hb2 b1
  go_wp2_with fail
  refine (HIH.out _ _ _ _ _ (hs.below b2) (hs'.below b2)).mono ?_
  rintro e w3 ⟨rfl, hb3⟩
  have b3 := below_trans b2 hb3
  clear x0 x1 x2 x3 x4 x5 x6 x7 x8 y0 y1 y2 y3 y4 y5 y6 y7 y8 hb3 b2
  go_wp2_with fail
  go_ret
  exact ⟨rfl, b3⟩

set_option maxHeartbeats 1000000 in
set_option maxRecDepth 100000 in
theorem eqTermS_of (ts : List Tm) (ih : ∀ t ∈ ts, EqMC t) : EqMSC ts := by
  intro s1 s2 f1 f2 w hs1 hs2
  have HIH := hid ih
  clear ih
  obtain ⟨a, cap, rfl, hc, hm, hget⟩ := hs1.open
  have HG := hid hget
  obtain ⟨a2, cap2, rfl, hc2, hm2, hget2⟩ := hs2.open
  have HG2 := hid hget2
  clear hget hget2 hs1 hs2
  go_enter Tryd.func62, Tryd.ntmps62
  go_wp2_with fail
  go_loopw [5] (fun i wr => ∃ k : Nat, k ≤ ts.length ∧ i = .int .i64 k ∧ Below w.heap.size w wr) (fun i _ => ts.length - (intOf i).toNat)
  case atStart => exact ⟨0, Nat.zero_le _, rfl, Below.refl _ _⟩
  case round =>
    obtain ⟨k, hk, rfl, hb⟩ := hrel
    by_cases hlk : k < ts.length
    · obtain ⟨b, o, q0, q1, q2, q3, q4, q5, q6, q7, q8, q9, q10, q11, q12, q13, q14, g1, rfl, hblt, c0, c1, c2, c3, c4, c5, c6, c7, c8, hat, hf⟩ := HG.out k hlk
      obtain ⟨b2, o2, r0, r1, r2, r3, r4, r5, r6, r7, r8, r9, r10, r11, r12, r13, r14, g2, rfl, hblt2, e0, e1, e2, e3, e4, e5, e6, e7, e8, hat2, hf2⟩ := HG2.out k hlk
      replace c0 := cell_keep c0 hb
      replace c1 := cell_keep c1 hb
      replace c2 := cell_keep c2 hb
      replace c3 := cell_keep c3 hb
      replace c4 := cell_keep c4 hb
      replace c5 := cell_keep c5 hb
      replace c6 := cell_keep c6 hb
      replace c7 := cell_keep c7 hb
      replace c8 := cell_keep c8 hb
      replace e0 := cell_keep e0 hb
      replace e1 := cell_keep e1 hb
      replace e2 := cell_keep e2 hb
      replace e3 := cell_keep e3 hb
      replace e4 := cell_keep e4 hb
      replace e5 := cell_keep e5 hb
      replace e6 := cell_keep e6 hb
      replace e7 := cell_keep e7 hb
      replace e8 := cell_keep e8 hb
      go_wp2_with fail
      go_still_tail 8, (by kernel_rfl)
      go_wp2_with fail
      refine (HIH.out _ (List.getElem_mem hlk) _ _ _ _ _ (hat.below ?_) (hat2.below ?_)).mono ?_
      · exact hb.drew
      · exact hb.drew
      rintro e w1 ⟨rfl, hb1⟩
      have hbb := below_trans hb.drew hb1
      clear hb hb1 hat hat2 c0 c1 c2 c3 c4 c5 c6 c7 c8 e0 e1 e2 e3 e4 e5 e6 e7 e8
      go_wp2_with fail
      go_roundw
      case rel => exact ⟨k + 1, by omega, by go_num, hbb⟩
      case measure => simp [intOf]; omega
    · go_wp2_with fail
      go_ret
      exact ⟨rfl, hb⟩

/-- The helper's contract, for every term. -/
theorem eqTerm_any : ∀ t : Tm, EqMC t := Tm.ind fun k nm num ty fr lb ts ih => eqTerm_of k nm num ty fr lb ts (eqTermS_of ts ih)

end Go.Proofs.YtbmlodikfmpfoaaDoor

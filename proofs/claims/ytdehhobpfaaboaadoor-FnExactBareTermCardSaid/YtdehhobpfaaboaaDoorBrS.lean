/- The specification's l4Bare. -/
import Derived.Test.YtdehhobpfaaboaaDoorPkB
import Derived.Test.YtdehhobpfaaboaaDoorBrN
import Derived.Test.YtdehhobpfaaboaaDoorPkA
namespace Go.Proofs.YtdehhobpfaaboaaDoor
open Go.RowKit

theorem GrowM.own_ge' {B : Nat} {ds : List Tm} {v : Value} {fp : List Nat} {w : World} (h : GrowM B ds v fp w) : ∀ b, v.ownBlock = some b → B ≤ b ∧ b < w.heap.size := by
  obtain ⟨xs, ho, _⟩ := h
  exact ho.lt

/-- The loop over the operands: what stands behind j rounds. -/
def BsI (w : World) (bv : Array Value) (k : Int) (nm : ByteArray) (num tk : Int) (us : List Tm) (x8 : Value) (f : List Nat) (wr : World) : Prop :=
  wr.heap[w.heap.size]? = some (.cells bv 34 (0, 0)) ∧ wr.heap[w.heap.size + 1]? = some (Obj.cells #[.int .i64 0, .string ByteArray.empty, .int .i64 0, .int .i64 0, .slice none 0 0, .int .i64 0, .slice none 0 0, .int .i64 0, .slice none 0 0] 34) ∧ wr.heap[w.heap.size + 1 + 1]? = some (.cells #[.int .i64 k, .string nm, .int .i64 num, .int .i64 tk, .slice none 0 0, .int .i64 0, .slice none 0 0, .int .i64 0, x8] 34 (0, 0)) ∧ GrowM (w.heap.size + 1 + 1 + 1) us x8 f wr ∧ w.heap.size + 1 + 1 + 1 ≤ wr.heap.size ∧ Below w.heap.size w wr

theorem BsI.step {w wr w1 w3 : World} {bv : Array Value} {k : Int} {nm : ByteArray} {num tk : Int} {us : List Tm} {u : Tm} {x8 : Value} {f f' : List Nat} {vs xs : List Value} {g cp n : Nat} (h : BsI w bv k nm num tk us x8 f wr)
    (hb : Below wr.heap.size wr w1) (hat : u.At w1 (.agg vs.toArray) f') (hf : Fresh wr.heap.size w1 f') (ha1 : AtXM w1 us xs f) (hf1 : Fresh (w.heap.size + 1 + 1 + 1) w1 f) (hn1 : ∀ b, x8.ownBlock = some b → b ∉ f)
    (hgrow : (w1.alloc (Obj.cells vs.toArray 34)).grownBy w3 x8.ownBlock) (hown3 : w3.ownsRow (w.heap.size + 1 + 1 + 1) 34 9 (.slice (some ⟨g, 0, none⟩) n cp) n (xs ++ vs)) (hn : n = us.length + 1) (hat3 : x8.ownBlock = some g ∨ g = (w1.alloc (Obj.cells vs.toArray 34)).heap.size) :
    BsI w bv k nm num tk (us ++ [u]) (.slice (some ⟨g, 0, none⟩) n cp) (f ++ f') (w3.setCell ⟨w.heap.size + 1 + 1, 8, none⟩ (.slice (some ⟨g, 0, none⟩) n cp)) := by
  obtain ⟨hB, hZ, hO, hG, hs, hx⟩ := h
  have hge := hG.own_ge'
  have h9 : vs.length = 9 := by simpa using Tm.size9 hat
  have hG3 : GrowM (w.heap.size + 1 + 1 + 1) (us ++ [u]) (.slice (some ⟨g, 0, none⟩) n cp) (f ++ f') w3 := GrowM.step (w := wr) ha1 hf1 hn1 hG.block.1 hG.block.2 hs h9 hat hf ((Below.refl _ _).alloc (Nat.le_refl _) _) hgrow hown3 hn hat3
  have hs1 := hb.size
  have hw3 : Below (w.heap.size + 1 + 1 + 1) w1 w3 := ((Below.refl _ _).alloc (by omega) _).grown hgrow (by simp; omega) (fun b hb => by have := (hge b hb).1; omega)
  have hbb := (hb.mono (B' := w.heap.size + 1 + 1 + 1) (by omega)).trans hw3
  have hs3 := hbb.size
  refine ⟨blk_ne ((hbb.block _ (by omega)).trans hB) (by simp; omega), blk_ne ((hbb.block _ (by omega)).trans hZ) (by simp), ?_, hG3.setCell (p := ⟨w.heap.size + 1 + 1, 8, none⟩) (by simp) _, by rw [size_setCell]; omega, (hx.trans (hbb.mono (by omega))).setCell (p := ⟨w.heap.size + 1 + 1, 8, none⟩) (by simp; omega) _⟩
  rw [heap_setCell_at ((hbb.block _ (by omega)).trans hO)]
  rfl

theorem BsI.keep {w wr w1 w3 : World} {bv : Array Value} {k : Int} {nm : ByteArray} {num tk : Int} {us : List Tm} {x8 : Value} {f : List Nat} {vs : List Value} (h : BsI w bv k nm num tk us x8 f wr)
    (hb : Below wr.heap.size wr w1) (hgrow : (w1.alloc (Obj.cells vs.toArray 34)).grownBy w3 x8.ownBlock) : w3.heap[w.heap.size + 1 + 1]? = some (.cells #[.int .i64 k, .string nm, .int .i64 num, .int .i64 tk, .slice none 0 0, .int .i64 0, .slice none 0 0, .int .i64 0, x8] 34 (0, 0)) := by
  obtain ⟨hB, hZ, hO, hG, hs, hx⟩ := h
  have hge := hG.own_ge'
  have hs1 := hb.size
  have hw3 : Below (w.heap.size + 1 + 1 + 1) w1 w3 := ((Below.refl _ _).alloc (by omega) _).grown hgrow (by simp; omega) (fun b hb => by have := (hge b hb).1; omega)
  have hbb := (hb.mono (B' := w.heap.size + 1 + 1 + 1) (by omega)).trans hw3
  exact (hbb.block _ (by omega)).trans hO

theorem BsI.done {w wr : World} {bv : Array Value} {k : Int} {nm : ByteArray} {num tk : Int} {us : List Tm} {x8 : Value} {f : List Nat} (h : BsI w bv k nm num tk us x8 f wr) (hnm : nm.size ≤ 9223372036854775807) (hm : us.length ≤ maxLen) (ht : bty k = .mk tk []) :
    MadeM w (.mk k nm num (bty k) (.mk 0 []) 0 us) (.returned (.agg #[.int .i64 k, .string nm, .int .i64 num, .int .i64 tk, .slice none 0 0, .int .i64 0, .slice none 0 0, .int .i64 0, x8])) (put wr (w.heap.size + 1) 0 (#[.int .i64 k, .string nm, .int .i64 num, .int .i64 tk, .slice none 0 0, .int .i64 0, .slice none 0 0, .int .i64 0, x8]).toList) := by
  obtain ⟨hB, hZ, hO, hG, hs, hx⟩ := h
  obtain ⟨fp, hsm, hf⟩ := hG.done hm
  have ab : Above (w.heap.size + 1 + 1) wr (put wr (w.heap.size + 1) 0 (#[.int .i64 k, .string nm, .int .i64 num, .int .i64 tk, .slice none 0 0, .int .i64 0, .slice none 0 0, .int .i64 0, x8]).toList) := (Above.refl _ _).put (Nat.lt_succ_self _)
  have q3 := hsm.above ab (fun b hb => by have := hf.ge b hb; omega)
  have F2 := (hf.above ab (by omega)).mono (B' := w.heap.size) (by omega)
  refine ⟨_, [] ++ ([] ++ fp), rfl, Tm.at_mk.2 ⟨_, _, _, _, _, [], [], fp, rfl, hnm, ?_, Ty.at_mk.2 ⟨_, rfl, .inl ⟨rfl, rfl, _, _, rfl⟩⟩, rfl, q3⟩, by simpa using F2, below_put hx (by omega)⟩
  rw [ht]
  exact Ty.at_mk.2 ⟨_, rfl, .inl ⟨rfl, rfl, _, _, rfl⟩⟩

def BsC (t : Tm) : Prop := ∀ (v : Value) (fp : List Nat) (w : World), t.At w v fp → bOk t → t.sz ≤ 1048576 → Calls Tryd.prog 87 #[v] w (MadeM w (bareT t))

set_option maxRecDepth 100000 in
set_option maxHeartbeats 4000000 in
theorem l4Bare_of (k : Int) (nm : ByteArray) (num : Int) (ty fr : Ty) (lb : Int) (ts : List Tm) (ih : ∀ t ∈ ts, BsC t) : BsC (.mk k nm num ty fr lb ts) := by
  intro v fp w hat hok hsz
  have HIH := hid ih
  clear ih
  have hat0 := hat
  obtain ⟨k1, n1, a1, c1, k2, n2, a2, c2, a3, c3, f1, f2, f3, rfl, hnm, -, -, rfl, hs⟩ := hat.parts
  obtain ⟨a, cap, hss, hc, hm, hget⟩ := hs.open
  cases hss
  simp only [bOk, ndOk] at hok
  obtain ⟨⟨hkid, -, -, -⟩, hokL⟩ := hok
  have HG := hid hget
  have HOK := hid hokL
  have HNM := hid hnm
  have hsl : szML ts + ts.length ≤ 1048576 := by simp only [Tm.sz] at hsz; omega
  have HSL := hid hsl
  have hb0 : Below w.heap.size w ((w.alloc (Obj.cells #[.int .i64 k, .string nm, .int .i64 num, .int .i64 k1, .slice a1 n1 c1, .int .i64 k2, .slice a2 n2 c2, .int .i64 lb, .slice a3 ts.length c3] 34)).alloc (Obj.cells #[.int .i64 0, .string ByteArray.empty, .int .i64 0, .int .i64 0, .slice none 0 0, .int .i64 0, .slice none 0 0, .int .i64 0, .slice none 0 0] 34)) := ((Below.refl _ _).alloc (Nat.le_refl _) _).alloc (by simp) _
  have HB0 := hid hb0
  have hs0 : (((w.alloc (Obj.cells #[.int .i64 k, .string nm, .int .i64 num, .int .i64 k1, .slice a1 n1 c1, .int .i64 k2, .slice a2 n2 c2, .int .i64 lb, .slice a3 ts.length c3] 34)).alloc (Obj.cells #[.int .i64 0, .string ByteArray.empty, .int .i64 0, .int .i64 0, .slice none 0 0, .int .i64 0, .slice none 0 0, .int .i64 0, .slice none 0 0] 34))).heap.size = w.heap.size + 1 + 1 := by simp
  have HZ0 := hid hs0
  clear hat hat0 hs hget hokL hnm hsz hsl hb0 hs0
  by_cases h13 : k = 13 ∨ k = 14
  · have hlen : ts.length = 1 := by
      rcases h13 with rfl | rfl
      · have : kidsM 13 = 1 := by decide
        omega
      · have : kidsM 14 = 1 := by decide
        omega
    have hp : 0 < ts.length := by omega
    have hp' : (0 : Int) < (ts.length : Int) := by omega
    obtain ⟨b, o, q0, q1, q2, q3, q4, q5, q6, q7, q8, q9, q10, q11, q12, q13, q14, fk, ha3, hblt, c0, c1', c2', c3', c4, c5, c6, c7, c8, hatk, hfk⟩ := HG.out 0 hp
    have d0 := cell_keep c0 HB0.out
    have d1 := cell_keep c1' HB0.out
    have d2 := cell_keep c2' HB0.out
    have d3 := cell_keep c3' HB0.out
    have d4 := cell_keep c4 HB0.out
    have d5 := cell_keep c5 HB0.out
    have d6 := cell_keep c6 HB0.out
    have d7 := cell_keep c7 HB0.out
    have d8 := cell_keep c8 HB0.out
    simp only [Nat.zero_mul, Nat.add_zero] at d0 d1 d2 d3 d4 d5 d6 d7 d8 c0 c1' c2' c3' c4 c5 c6 c7 c8
    have hszk : ts[0].sz ≤ 1048576 := by have := HSL.out; have := sz_mem (List.getElem_mem hp); omega
    have HCALL := hid (HIH.out _ (List.getElem_mem hp) _ _ ((w.alloc (Obj.cells #[.int .i64 k, .string nm, .int .i64 num, .int .i64 k1, .slice a1 n1 c1, .int .i64 k2, .slice a2 n2 c2, .int .i64 lb, .slice a3 ts.length c3] 34)).alloc (Obj.cells #[.int .i64 0, .string ByteArray.empty, .int .i64 0, .int .i64 0, .slice none 0 0, .int .i64 0, .slice none 0 0, .int .i64 0, .slice none 0 0] 34)) (hatk.below HB0.out) (bOkL_get HOK.out 0 hp) hszk)
    have HBT := hid (show bareT (.mk k nm num ty fr lb ts) = bareT ts[0] from bareT_cast h13 hp)
    rw [HBT.out]
    generalize bareT ts[0] = R at *
    obtain ⟨x0, x1, x2, x3, x4, x5, x6, x7, x8⟩ := box9 (Below.refl (w.alloc (Obj.cells #[.int .i64 k, .string nm, .int .i64 num, .int .i64 k1, .slice a1 n1 c1, .int .i64 k2, .slice a2 n2 c2, .int .i64 lb, .slice a3 ts.length c3] 34)).heap.size (w.alloc (Obj.cells #[.int .i64 k, .string nm, .int .i64 num, .int .i64 k1, .slice a1 n1 c1, .int .i64 k2, .slice a2 n2 c2, .int .i64 lb, .slice a3 ts.length c3] 34)))
    clear hatk hfk hkid hlen hszk
    subst ha3
    rcases h13 with rfl | rfl
    all_goals
      go_enter Tryd.func87, Tryd.ntmps87
      go_wp2_with fail
      refine HCALL.out.mono ?_
      rintro e w1 ⟨v', f', rfl, hat', hf', hb1⟩
      obtain ⟨r0, r1, r2, r3, r4, r5, r6, r7, r8, r9, r10, r11, r12, r13, r14, rfl⟩ := hat'.agg
      obtain ⟨hB, hZ⟩ := two_out hb1
      obtain ⟨y0, y1, y2, y3, y4, y5, y6, y7, y8⟩ := cells9 hZ
      have yz := fun o => frozen_of_block (o := o) hZ
      have hM : w.heap.size + 1 < w1.heap.size := lt_of_block hZ
      rw [HZ0.out] at hf'
      have ab : Above (w.heap.size + 1 + 1) w1 (put w1 (w.heap.size + 1) 0 [.int .i64 r0, .string r1, .int .i64 r2, .int .i64 r3, .slice r5 r4 r6, .int .i64 r7, .slice r9 r8 r10, .int .i64 r11, .slice r13 r12 r14]) := (Above.refl _ _).put (Nat.lt_succ_self _)
      have FIN := hid (show MadeM w R (.returned (.agg (Array.mk [.int .i64 r0, .string r1, .int .i64 r2, .int .i64 r3, .slice r5 r4 r6, .int .i64 r7, .slice r9 r8 r10, .int .i64 r11, .slice r13 r12 r14]))) (put w1 (w.heap.size + 1) 0 [.int .i64 r0, .string r1, .int .i64 r2, .int .i64 r3, .slice r5 r4 r6, .int .i64 r7, .slice r9 r8 r10, .int .i64 r11, .slice r13 r12 r14]) from ⟨_, f', rfl, hat'.above ab hf'.ge, (hf'.above ab (Nat.le_refl _)).mono (by omega), below_put (below_trans HB0.out hb1) (by omega)⟩)
      clear hat' hf' hb1 hB hZ ab
      go_wp2_with fail
      exact bodyPost_ret (v := .agg (Array.mk [.int .i64 r0, .string r1, .int .i64 r2, .int .i64 r3, .slice r5 r4 r6, .int .i64 r7, .slice r9 r8 r10, .int .i64 r11, .slice r13 r12 r14])) (by simp [results, Tryd.results87, go_sem, y0, y1, y2, y3, y4, y5, y6, y7, y8]) rfl FIN.out
  · have HBT := hid (show bareT (.mk k nm num ty fr lb ts) = .mk k nm num (bty k) (.mk 0 []) 0 (bareL ts) by simp only [bareT]; rw [if_neg h13]; rfl)
    rw [HBT.out]
    have h13' : (k == 13) = false := by simp; omega
    have h14' : (k == 14) = false := by simp; omega
    clear hkid
    by_cases h5 : k = 5
    · have e5 : (k == 5) = true := by simpa using h5
      have HTK := hid (show bty k = .mk 1 [] by unfold bty; rw [if_pos h5])
      clear h5 h13
      go_enter Tryd.func87, Tryd.ntmps87
      go_wp2_with fail
      refine (l1Any_any _).mono ?_
      rintro e w1 ⟨rfl, hb1⟩
      obtain ⟨hB, hZ, hO⟩ := three_out hb1
      obtain ⟨x0, x1, x2, x3, x4, x5, x6, x7, x8⟩ := cells9 hB
      obtain ⟨y0, y1, y2, y3, y4, y5, y6, y7, y8⟩ := cells9 hO
      have yz := fun o => frozen_of_block (o := o) hO
      have hM : w.heap.size + 1 + 1 < w1.heap.size := lt_of_block hO
      have hb3 : Below w.heap.size w w1 := below_trans (((HB0.out).alloc (by simp; omega) (Obj.cells #[.int .i64 k, .string nm, .int .i64 num, .int .i64 0, .slice none 0 0, .int .i64 0, .slice none 0 0, .int .i64 0, .slice none 0 0] 34))) hb1
      have HI0 := hid (show BsI w #[.int .i64 k, .string nm, .int .i64 num, .int .i64 k1, .slice a1 n1 c1, .int .i64 k2, .slice a2 n2 c2, .int .i64 lb, .slice a3 ts.length c3] k nm num 1 ((bareL ts).take 0) (.slice none 0 0) [] ((w1.setCell ⟨w.heap.size + 1 + 1, 3, none⟩ (.int .i64 1)).setCell ⟨w.heap.size + 1 + 1, 4, none⟩ (.slice none 0 0)) from
        ⟨blk_ne (blk_ne hB (by simp; omega)) (by simp; omega), blk_ne (blk_ne hZ (by simp)) (by simp), heap_setCell_at (heap_setCell_at hO _) _, by rw [List.take_zero]; exact GrowM.zero _ _, by rw [size_setCell, size_setCell]; omega, (hb3.setCell (p := ⟨w.heap.size + 1 + 1, 3, none⟩) (by simp; omega) _).setCell (p := ⟨w.heap.size + 1 + 1, 4, none⟩) (by simp; omega) _⟩)
      clear hB hZ hO hb1 hb3
      go_wp2_with fail
      clear x0 x1 x2 x3 x4 x5 x6 x7 x8 y0 y1 y2 y3 y4 y5 y6 y7 y8 yz
      go_loopw [4] (fun i wr => ∃ (j : Nat) (x : Value) (f : List Nat), j ≤ ts.length ∧ i = .int .i64 j ∧ BsI w #[.int .i64 k, .string nm, .int .i64 num, .int .i64 k1, .slice a1 n1 c1, .int .i64 k2, .slice a2 n2 c2, .int .i64 lb, .slice a3 ts.length c3] k nm num 1 ((bareL ts).take j) x f wr) (fun i _ => ts.length - (intOf i).toNat)
      case atStart => exact ⟨0, _, [], Nat.zero_le _, rfl, HI0.out⟩
      case round =>
        obtain ⟨j, x, f, hj, rfl, hI⟩ := hrel
        have hI0 := hI
        obtain ⟨hB, hZ, hO, hG, hs3, hx⟩ := hI0
        have hlen : ((bareL ts).take j).length = j := by rw [List.length_take, bareL_len]; omega
        obtain ⟨av, capv, hshape⟩ := hG.shape
        rw [hlen] at hshape
        subst hshape
        obtain ⟨x0, x1, x2, x3, x4, x5, x6, x7, x8⟩ := cells9 hB
        obtain ⟨y0, y1, y2, y3, y4, y5, y6, y7, y8⟩ := cells9 hO
        have yz := fun o => frozen_of_block (o := o) hO
        have HI := hid hI
        have HLEN := hid hlen
        clear hI hlen
        have hM : w.heap.size + 1 + 1 < wr.heap.size := by omega
        by_cases hlk : j < ts.length
        · obtain ⟨b, o, q0, q1, q2, q3, q4, q5, q6, q7, q8, q9, q10, q11, q12, q13, q14, fk, rfl, hblt, c0, c1', c2', c3', c4, c5, c6, c7, c8, hatk, hfk⟩ := HG.out j hlk
          have u0 := (hx.cell (p := ⟨b, o + j * 9, none⟩) hblt).trans c0
          have u1 := (hx.cell (p := ⟨b, o + j * 9 + 1, none⟩) hblt).trans c1'
          have u2 := (hx.cell (p := ⟨b, o + j * 9 + 2, none⟩) hblt).trans c2'
          have u3 := (hx.cell (p := ⟨b, o + j * 9 + 3, none⟩) hblt).trans c3'
          have u4 := (hx.cell (p := ⟨b, o + j * 9 + 4, none⟩) hblt).trans c4
          have u5 := (hx.cell (p := ⟨b, o + j * 9 + 5, none⟩) hblt).trans c5
          have u6 := (hx.cell (p := ⟨b, o + j * 9 + 6, none⟩) hblt).trans c6
          have u7 := (hx.cell (p := ⟨b, o + j * 9 + 7, none⟩) hblt).trans c7
          have u8 := (hx.cell (p := ⟨b, o + j * 9 + 8, none⟩) hblt).trans c8
          have HATK := hid (hatk.below hx)
          have hszk : ts[j].sz ≤ 1048576 := by have := HSL.out; have := sz_mem (List.getElem_mem hlk); omega
          have hj0 : (0 : Int) ≤ (j : Int) := by omega
          have hj1 : (j : Int) < (ts.length : Int) := by omega
          obtain ⟨i0, hi0, hz0, hz1, hz2⟩ := info_parts (P := Tryd.prog) (e := 34) Tryd.infoTm
          clear c0 c1' c2' c3' c4 c5 c6 c7 c8 hatk hfk hB hZ
          go_wp2_with fail
          have hmx : j + 1 ≤ maxLen := by unfold maxLen; have := HSL.out; omega
          have hby : (j + 1) * 128 ≤ 140737488355328 := by have := HSL.out; omega
          go_region_law (first
            | (refine step_append_lies _ (by rfl) _ _ _ (by rfl) (w.heap.size + 1 + 1 + 1) 34 i0 _ 9 128 Tryd.underElemsM hi0 hz0 hz1 hz2 rfl (by omega) (.slice av j capv) j xs (by rfl) (ho2.alloc _) ⟨w1.heap.size, 0, none⟩ 1 1 [.int .i64 r0, .string r1, .int .i64 r2, .int .i64 r3, .slice r5 r4 r6, .int .i64 r7, .slice r9 r8 r10, .int .i64 r11, .slice r13 r12 r14] (by rfl) (by rfl) (World.news_of_block (cs := #[.int .i64 r0, .string r1, .int .i64 r2, .int .i64 r3, .slice r5 r4 r6, .int .i64 r7, .slice r9 r8 r10, .int .i64 r11, .slice r13 r12 r14]) (t := 34) (fr := (0, 0)) (heap_alloc_new w1 _)) (by simp [Value.oneCell']) (by omega) hmx hby (by simp; omega) (w1.heap.size + 1) (by simp) ?_; intro g cp w3 hown3 hgrow hat3 hlt3; have hO3 := HI.out.keep (vs := [.int .i64 r0, .string r1, .int .i64 r2, .int .i64 r3, .slice r5 r4 r6, .int .i64 r7, .slice r9 r8 r10, .int .i64 r11, .slice r13 r12 r14]) hbd hgrow; have z1 := (cell_of_block (o := 8) hO3); have z2 := (frozen_of_block (o := 8) hO3))
            | (go_simp; go_at_call 87; refine (HIH.out _ (List.getElem_mem hlk) _ _ _ (HATK.out.below (below_drew wr)) (bOkL_get HOK.out j hlk) hszk).mono ?_; rintro e w1 ⟨v1, f', rfl, hat', hf', hb1⟩; obtain ⟨r0, r1, r2, r3, r4, r5, r6, r7, r8, r9, r10, r11, r12, r13, r14, rfl⟩ := hat'.agg; have hbd := below_trans (below_drew wr) hb1; have x0' := cell_keep x0 hbd; have x1' := cell_keep x1 hbd; have x2' := cell_keep x2 hbd; have x3' := cell_keep x3 hbd; have x4' := cell_keep x4 hbd; have x5' := cell_keep x5 hbd; have x6' := cell_keep x6 hbd; have x7' := cell_keep x7 hbd; have x8' := cell_keep x8 hbd; have y0' := cell_keep y0 hbd; have y1' := cell_keep y1 hbd; have y2' := cell_keep y2 hbd; have y3' := cell_keep y3 hbd; have y4' := cell_keep y4 hbd; have y5' := cell_keep y5 hbd; have y6' := cell_keep y6 hbd; have y7' := cell_keep y7 hbd; have y8' := cell_keep y8 hbd; have u0' := cell_keep u0 hbd; have u1' := cell_keep u1 hbd; have u2' := cell_keep u2 hbd; have u3' := cell_keep u3 hbd; have u4' := cell_keep u4 hbd; have u5' := cell_keep u5 hbd; have u6' := cell_keep u6 hbd; have u7' := cell_keep u7 hbd; have u8' := cell_keep u8 hbd; obtain ⟨xs, ho1, ha1, hf1, hn1⟩ := hG.below hbd; have ho2 := ho1; rw [HLEN.out] at ho2; have hO1 := (hbd.block _ hM).trans hO; have hM1 := lt_of_block hO1))
          all_goals
            have HI2 := hid (HI.out.step (vs := [.int .i64 r0, .string r1, .int .i64 r2, .int .i64 r3, .slice r5 r4 r6, .int .i64 r7, .slice r9 r8 r10, .int .i64 r11, .slice r13 r12 r14]) (n := j + 1) hbd hat' hf' ha1 hf1 hn1 hgrow hown3 (by rw [HLEN.out]) (by simpa using hat3))
            rw [← bareL_take ts j hlk] at HI2
            have hM3 := lt_of_block hO3
            clear hO1 hO ha1 hf1 hn1 hat' hf' hgrow hown3 hat3 hlt3 ho1 ho2 hbd hG hO3 x0 x0' x1 x1' x2 x2' x3 x3' x4 x4' x5 x5' x6 x6' x7 x7' x8 x8' y0 y0' y1 y1' y2 y2' y3 y3' y4 y4' y5 y5' y6 y6' y7 y7' y8 y8' u0 u0' u1 u1' u2 u2' u3 u3' u4 u4' u5 u5' u6 u6' u7 u7' u8 u8' yz
            go_wp2_with fail
            exact ⟨⟨j + 1, _, _, by omega, by go_num, HI2.out⟩, by simp [intOf]; omega⟩
        · obtain rfl : j = ts.length := by omega
          rw [show (bareL ts).take ts.length = bareL ts from List.take_of_length_le (by rw [bareL_len]; omega)] at HI
          have FIN := hid (HI.out.done HNM.out (by rw [bareL_len]; have := HSL.out; unfold maxLen; omega) HTK.out)
          obtain ⟨z0, z1, z2, z3, z4, z5, z6, z7, z8⟩ := cells9 hZ
          have zz := fun o => frozen_of_block (o := o) hZ
          clear hB hZ hO hG hx HI
          go_wp2_with fail
          exact bodyPost_ret (v := .agg #[.int .i64 k, .string nm, .int .i64 num, .int .i64 1, .slice none 0 0, .int .i64 0, .slice none 0 0, .int .i64 0, .slice av ts.length capv]) (by simp [results, Tryd.results87, go_sem, z0, z1, z2, z3, z4, z5, z6, z7, z8]) rfl FIN.out
    · have e5 : (k == 5) = false := by simpa using h5
      have HTK := hid (show bty k = .mk 0 [] by unfold bty; rw [if_neg h5])
      clear h5 h13
      go_enter Tryd.func87, Tryd.ntmps87
      go_wp2_with fail
      have HI0 := hid (show BsI w #[.int .i64 k, .string nm, .int .i64 num, .int .i64 k1, .slice a1 n1 c1, .int .i64 k2, .slice a2 n2 c2, .int .i64 lb, .slice a3 ts.length c3] k nm num 0 ((bareL ts).take 0) (.slice none 0 0) [] ((((w.alloc (Obj.cells #[.int .i64 k, .string nm, .int .i64 num, .int .i64 k1, .slice a1 n1 c1, .int .i64 k2, .slice a2 n2 c2, .int .i64 lb, .slice a3 ts.length c3] 34)).alloc (Obj.cells #[.int .i64 0, .string ByteArray.empty, .int .i64 0, .int .i64 0, .slice none 0 0, .int .i64 0, .slice none 0 0, .int .i64 0, .slice none 0 0] 34))).alloc (Obj.cells #[.int .i64 k, .string nm, .int .i64 num, .int .i64 0, .slice none 0 0, .int .i64 0, .slice none 0 0, .int .i64 0, .slice none 0 0] 34)) from by
        obtain ⟨hB, hZ, hO⟩ := three_out (Below.refl ((((w.alloc (Obj.cells #[.int .i64 k, .string nm, .int .i64 num, .int .i64 k1, .slice a1 n1 c1, .int .i64 k2, .slice a2 n2 c2, .int .i64 lb, .slice a3 ts.length c3] 34)).alloc (Obj.cells #[.int .i64 0, .string ByteArray.empty, .int .i64 0, .int .i64 0, .slice none 0 0, .int .i64 0, .slice none 0 0, .int .i64 0, .slice none 0 0] 34))).alloc (Obj.cells #[.int .i64 k, .string nm, .int .i64 num, .int .i64 0, .slice none 0 0, .int .i64 0, .slice none 0 0, .int .i64 0, .slice none 0 0] 34)).heap.size ((((w.alloc (Obj.cells #[.int .i64 k, .string nm, .int .i64 num, .int .i64 k1, .slice a1 n1 c1, .int .i64 k2, .slice a2 n2 c2, .int .i64 lb, .slice a3 ts.length c3] 34)).alloc (Obj.cells #[.int .i64 0, .string ByteArray.empty, .int .i64 0, .int .i64 0, .slice none 0 0, .int .i64 0, .slice none 0 0, .int .i64 0, .slice none 0 0] 34))).alloc (Obj.cells #[.int .i64 k, .string nm, .int .i64 num, .int .i64 0, .slice none 0 0, .int .i64 0, .slice none 0 0, .int .i64 0, .slice none 0 0] 34)))
        exact ⟨hB, hZ, hO, by rw [List.take_zero]; exact GrowM.zero _ _, by simp, (HB0.out).alloc (by simp; omega) (Obj.cells #[.int .i64 k, .string nm, .int .i64 num, .int .i64 0, .slice none 0 0, .int .i64 0, .slice none 0 0, .int .i64 0, .slice none 0 0] 34)⟩)
      go_loopw [4] (fun i wr => ∃ (j : Nat) (x : Value) (f : List Nat), j ≤ ts.length ∧ i = .int .i64 j ∧ BsI w #[.int .i64 k, .string nm, .int .i64 num, .int .i64 k1, .slice a1 n1 c1, .int .i64 k2, .slice a2 n2 c2, .int .i64 lb, .slice a3 ts.length c3] k nm num 0 ((bareL ts).take j) x f wr) (fun i _ => ts.length - (intOf i).toNat)
      case atStart => exact ⟨0, _, [], Nat.zero_le _, rfl, HI0.out⟩
      case round =>
        obtain ⟨j, x, f, hj, rfl, hI⟩ := hrel
        have hI0 := hI
        obtain ⟨hB, hZ, hO, hG, hs3, hx⟩ := hI0
        have hlen : ((bareL ts).take j).length = j := by rw [List.length_take, bareL_len]; omega
        obtain ⟨av, capv, hshape⟩ := hG.shape
        rw [hlen] at hshape
        subst hshape
        obtain ⟨x0, x1, x2, x3, x4, x5, x6, x7, x8⟩ := cells9 hB
        obtain ⟨y0, y1, y2, y3, y4, y5, y6, y7, y8⟩ := cells9 hO
        have yz := fun o => frozen_of_block (o := o) hO
        have HI := hid hI
        have HLEN := hid hlen
        clear hI hlen
        have hM : w.heap.size + 1 + 1 < wr.heap.size := by omega
        by_cases hlk : j < ts.length
        · obtain ⟨b, o, q0, q1, q2, q3, q4, q5, q6, q7, q8, q9, q10, q11, q12, q13, q14, fk, rfl, hblt, c0, c1', c2', c3', c4, c5, c6, c7, c8, hatk, hfk⟩ := HG.out j hlk
          have u0 := (hx.cell (p := ⟨b, o + j * 9, none⟩) hblt).trans c0
          have u1 := (hx.cell (p := ⟨b, o + j * 9 + 1, none⟩) hblt).trans c1'
          have u2 := (hx.cell (p := ⟨b, o + j * 9 + 2, none⟩) hblt).trans c2'
          have u3 := (hx.cell (p := ⟨b, o + j * 9 + 3, none⟩) hblt).trans c3'
          have u4 := (hx.cell (p := ⟨b, o + j * 9 + 4, none⟩) hblt).trans c4
          have u5 := (hx.cell (p := ⟨b, o + j * 9 + 5, none⟩) hblt).trans c5
          have u6 := (hx.cell (p := ⟨b, o + j * 9 + 6, none⟩) hblt).trans c6
          have u7 := (hx.cell (p := ⟨b, o + j * 9 + 7, none⟩) hblt).trans c7
          have u8 := (hx.cell (p := ⟨b, o + j * 9 + 8, none⟩) hblt).trans c8
          have HATK := hid (hatk.below hx)
          have hszk : ts[j].sz ≤ 1048576 := by have := HSL.out; have := sz_mem (List.getElem_mem hlk); omega
          have hj0 : (0 : Int) ≤ (j : Int) := by omega
          have hj1 : (j : Int) < (ts.length : Int) := by omega
          obtain ⟨i0, hi0, hz0, hz1, hz2⟩ := info_parts (P := Tryd.prog) (e := 34) Tryd.infoTm
          clear c0 c1' c2' c3' c4 c5 c6 c7 c8 hatk hfk hB hZ
          go_wp2_with fail
          have hmx : j + 1 ≤ maxLen := by unfold maxLen; have := HSL.out; omega
          have hby : (j + 1) * 128 ≤ 140737488355328 := by have := HSL.out; omega
          go_region_law (first
            | (refine step_append_lies _ (by rfl) _ _ _ (by rfl) (w.heap.size + 1 + 1 + 1) 34 i0 _ 9 128 Tryd.underElemsM hi0 hz0 hz1 hz2 rfl (by omega) (.slice av j capv) j xs (by rfl) (ho2.alloc _) ⟨w1.heap.size, 0, none⟩ 1 1 [.int .i64 r0, .string r1, .int .i64 r2, .int .i64 r3, .slice r5 r4 r6, .int .i64 r7, .slice r9 r8 r10, .int .i64 r11, .slice r13 r12 r14] (by rfl) (by rfl) (World.news_of_block (cs := #[.int .i64 r0, .string r1, .int .i64 r2, .int .i64 r3, .slice r5 r4 r6, .int .i64 r7, .slice r9 r8 r10, .int .i64 r11, .slice r13 r12 r14]) (t := 34) (fr := (0, 0)) (heap_alloc_new w1 _)) (by simp [Value.oneCell']) (by omega) hmx hby (by simp; omega) (w1.heap.size + 1) (by simp) ?_; intro g cp w3 hown3 hgrow hat3 hlt3; have hO3 := HI.out.keep (vs := [.int .i64 r0, .string r1, .int .i64 r2, .int .i64 r3, .slice r5 r4 r6, .int .i64 r7, .slice r9 r8 r10, .int .i64 r11, .slice r13 r12 r14]) hbd hgrow; have z1 := (cell_of_block (o := 8) hO3); have z2 := (frozen_of_block (o := 8) hO3))
            | (go_simp; go_at_call 87; refine (HIH.out _ (List.getElem_mem hlk) _ _ _ (HATK.out.below (below_drew wr)) (bOkL_get HOK.out j hlk) hszk).mono ?_; rintro e w1 ⟨v1, f', rfl, hat', hf', hb1⟩; obtain ⟨r0, r1, r2, r3, r4, r5, r6, r7, r8, r9, r10, r11, r12, r13, r14, rfl⟩ := hat'.agg; have hbd := below_trans (below_drew wr) hb1; have x0' := cell_keep x0 hbd; have x1' := cell_keep x1 hbd; have x2' := cell_keep x2 hbd; have x3' := cell_keep x3 hbd; have x4' := cell_keep x4 hbd; have x5' := cell_keep x5 hbd; have x6' := cell_keep x6 hbd; have x7' := cell_keep x7 hbd; have x8' := cell_keep x8 hbd; have y0' := cell_keep y0 hbd; have y1' := cell_keep y1 hbd; have y2' := cell_keep y2 hbd; have y3' := cell_keep y3 hbd; have y4' := cell_keep y4 hbd; have y5' := cell_keep y5 hbd; have y6' := cell_keep y6 hbd; have y7' := cell_keep y7 hbd; have y8' := cell_keep y8 hbd; have u0' := cell_keep u0 hbd; have u1' := cell_keep u1 hbd; have u2' := cell_keep u2 hbd; have u3' := cell_keep u3 hbd; have u4' := cell_keep u4 hbd; have u5' := cell_keep u5 hbd; have u6' := cell_keep u6 hbd; have u7' := cell_keep u7 hbd; have u8' := cell_keep u8 hbd; obtain ⟨xs, ho1, ha1, hf1, hn1⟩ := hG.below hbd; have ho2 := ho1; rw [HLEN.out] at ho2; have hO1 := (hbd.block _ hM).trans hO; have hM1 := lt_of_block hO1))
          all_goals
            have HI2 := hid (HI.out.step (vs := [.int .i64 r0, .string r1, .int .i64 r2, .int .i64 r3, .slice r5 r4 r6, .int .i64 r7, .slice r9 r8 r10, .int .i64 r11, .slice r13 r12 r14]) (n := j + 1) hbd hat' hf' ha1 hf1 hn1 hgrow hown3 (by rw [HLEN.out]) (by simpa using hat3))
            rw [← bareL_take ts j hlk] at HI2
            have hM3 := lt_of_block hO3
            clear hO1 hO ha1 hf1 hn1 hat' hf' hgrow hown3 hat3 hlt3 ho1 ho2 hbd hG hO3 x0 x0' x1 x1' x2 x2' x3 x3' x4 x4' x5 x5' x6 x6' x7 x7' x8 x8' y0 y0' y1 y1' y2 y2' y3 y3' y4 y4' y5 y5' y6 y6' y7 y7' y8 y8' u0 u0' u1 u1' u2 u2' u3 u3' u4 u4' u5 u5' u6 u6' u7 u7' u8 u8' yz
            go_wp2_with fail
            exact ⟨⟨j + 1, _, _, by omega, by go_num, HI2.out⟩, by simp [intOf]; omega⟩
        · obtain rfl : j = ts.length := by omega
          rw [show (bareL ts).take ts.length = bareL ts from List.take_of_length_le (by rw [bareL_len]; omega)] at HI
          have FIN := hid (HI.out.done HNM.out (by rw [bareL_len]; have := HSL.out; unfold maxLen; omega) HTK.out)
          obtain ⟨z0, z1, z2, z3, z4, z5, z6, z7, z8⟩ := cells9 hZ
          have zz := fun o => frozen_of_block (o := o) hZ
          clear hB hZ hO hG hx HI
          go_wp2_with fail
          exact bodyPost_ret (v := .agg #[.int .i64 k, .string nm, .int .i64 num, .int .i64 0, .slice none 0 0, .int .i64 0, .slice none 0 0, .int .i64 0, .slice av ts.length capv]) (by simp [results, Tryd.results87, go_sem, z0, z1, z2, z3, z4, z5, z6, z7, z8]) rfl FIN.out

theorem l4Bare_any (t : Tm) : BsC t := Tm.ind l4Bare_of t
end Go.Proofs.YtdehhobpfaaboaaDoor

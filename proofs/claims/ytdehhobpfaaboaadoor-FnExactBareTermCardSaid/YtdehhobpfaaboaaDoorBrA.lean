/- BareTerm of the specification and of the program. -/
import Derived.Test.YtdehhobpfaaboaaDoorBrW
import Derived.Test.YtdehhobpfaaboaaDoorBrS
import Derived.Test.YtdehhobpfaaboaaDoorC4
import Derived.Test.YtdehhobpfaaboaaDoorPkC
namespace Go.Proofs.YtdehhobpfaaboaaDoor
open Go.RowKit

def nilTm : Tm := .mk 0 ByteArray.empty 0 (.mk 0 []) (.mk 0 []) 0 []

theorem nilTm_at (w : World) : nilTm.At w (.agg #[.int .i64 0, .string ByteArray.empty, .int .i64 0, .int .i64 0, .slice none 0 0, .int .i64 0, .slice none 0 0, .int .i64 0, .slice none 0 0]) [] :=
  Tm.at_mk.2 ⟨_, _, _, _, _, [], [], [], rfl, by decide, Ty.at_mk.2 ⟨_, rfl, .inl ⟨rfl, rfl, _, _, rfl⟩⟩, Ty.at_mk.2 ⟨_, rfl, .inl ⟨rfl, rfl, _, _, rfl⟩⟩, rfl, .inl ⟨rfl, rfl, _, _, rfl⟩⟩

def MadeBr (w : World) (t : Tm) (ok : Bool) (e : Ending) (w' : World) : Prop := ∃ v fp, e = .returned (.tuple #[v, .bool ok]) ∧ t.At w' v fp ∧ Fresh w.heap.size w' fp ∧ Below w.heap.size w w'

/-- The document's BareTerm. -/
def brT (t : Tm) : Tm := if (vldM t || vldC t) = true then bareT t else nilTm

theorem bOk_vldM {t : Tm} (h : vldM t = true) : bOk t := by
  unfold vldM at h
  simp only [Bool.and_eq_true] at h
  exact bOk_shpM 12 t h.1

theorem bOk_vldC {t : Tm} (h : vldC t = true) : bOk t := by
  unfold vldC at h
  simp only [Bool.and_eq_true] at h
  exact bOk_shpC 40 t h.1

mutual
theorem bareT_num : ∀ t : Tm, (bareT t).num ≤ t.num
  | .mk k nm num ty fr lb ts => by
    have h1 := bareL_num ts
    have h2 := bareH_num ts
    simp only [bareT]
    split
    · simp only [Tm.num]
      omega
    · have h3 : (if k = 5 then Ty.mk 1 [] else Ty.mk 0 []).cnt = 0 := by split <;> simp [Ty.cnt, cntL]
      simp only [Tm.num, h3]
      simp only [Ty.cnt, cntL, List.length_nil]
      omega
theorem bareH_num : ∀ ts : List Tm, (bareH ts).num ≤ numL ts + 0
  | [] => by simp [bareH, Tm.num, numL, Ty.cnt, cntL]
  | t :: ts => by
    have := bareT_num t
    simp only [bareH, numL]
    omega
theorem bareL_num : ∀ ts : List Tm, numL (bareL ts) ≤ numL ts
  | [] => by simp [bareL, numL]
  | t :: ts => by
    have h1 := bareT_num t
    have h2 := bareL_num ts
    simp only [bareL, numL]
    omega
end

theorem br_num (t : Tm) : (brT t).num ≤ t.num := by
  unfold brT
  split
  · exact bareT_num t
  · simp [nilTm, Tm.num, numL, Ty.cnt, cntL]

set_option maxRecDepth 100000 in
set_option maxHeartbeats 4000000 in
theorem specBareTerm (t : Tm) (v : Value) (fp : List Nat) (w : World) (hsz : t.sz ≤ 1048576) (hat : t.At w v fp) :
    Calls Tryd.prog 37 #[v] w (MadeBr w (brT t) (vldM t || vldC t)) := by
  have hat0 := hat
  obtain ⟨k, nm, num, k1, n1, a1, c1, k2, n2, a2, c2, lb, n3, a3, c3, rfl⟩ := hat.agg
  have hb0 : Below w.heap.size w ((w.alloc (Obj.cells #[.int .i64 k, .string nm, .int .i64 num, .int .i64 k1, .slice a1 n1 c1, .int .i64 k2, .slice a2 n2 c2, .int .i64 lb, .slice a3 n3 c3] 34)).alloc (Obj.cells #[.int .i64 0, .string ByteArray.empty, .int .i64 0, .int .i64 0, .slice none 0 0, .int .i64 0, .slice none 0 0, .int .i64 0, .slice none 0 0] 34)) := ((Below.refl _ _).alloc (Nat.le_refl _) _).alloc (by simp) _
  have HB0 := hid hb0
  have HV1 := hid (show Calls Tryd.prog 54 #[_] ((w.alloc (Obj.cells #[.int .i64 k, .string nm, .int .i64 num, .int .i64 k1, .slice a1 n1 c1, .int .i64 k2, .slice a2 n2 c2, .int .i64 lb, .slice a3 n3 c3] 34)).alloc (Obj.cells #[.int .i64 0, .string ByteArray.empty, .int .i64 0, .int .i64 0, .slice none 0 0, .int .i64 0, .slice none 0 0, .int .i64 0, .slice none 0 0] 34)) _ from specTermValid t _ _ _ hsz (hat0.below hb0))
  have HV2 := hid (fun (w1 : World) (h1 : Below (((w.alloc (Obj.cells #[.int .i64 k, .string nm, .int .i64 num, .int .i64 k1, .slice a1 n1 c1, .int .i64 k2, .slice a2 n2 c2, .int .i64 lb, .slice a3 n3 c3] 34)).alloc (Obj.cells #[.int .i64 0, .string ByteArray.empty, .int .i64 0, .int .i64 0, .slice none 0 0, .int .i64 0, .slice none 0 0, .int .i64 0, .slice none 0 0] 34))).heap.size ((w.alloc (Obj.cells #[.int .i64 k, .string nm, .int .i64 num, .int .i64 k1, .slice a1 n1 c1, .int .i64 k2, .slice a2 n2 c2, .int .i64 lb, .slice a3 n3 c3] 34)).alloc (Obj.cells #[.int .i64 0, .string ByteArray.empty, .int .i64 0, .int .i64 0, .slice none 0 0, .int .i64 0, .slice none 0 0, .int .i64 0, .slice none 0 0] 34)) w1) => (show Calls Tryd.prog 86 #[_] w1 _ from specCastValid t _ _ _ hsz ((hat0.below hb0).below h1)))
  have HCL := hid (fun (hok : bOk t) (w1 : World) (h1 : Below (((w.alloc (Obj.cells #[.int .i64 k, .string nm, .int .i64 num, .int .i64 k1, .slice a1 n1 c1, .int .i64 k2, .slice a2 n2 c2, .int .i64 lb, .slice a3 n3 c3] 34)).alloc (Obj.cells #[.int .i64 0, .string ByteArray.empty, .int .i64 0, .int .i64 0, .slice none 0 0, .int .i64 0, .slice none 0 0, .int .i64 0, .slice none 0 0] 34))).heap.size ((w.alloc (Obj.cells #[.int .i64 k, .string nm, .int .i64 num, .int .i64 k1, .slice a1 n1 c1, .int .i64 k2, .slice a2 n2 c2, .int .i64 lb, .slice a3 n3 c3] 34)).alloc (Obj.cells #[.int .i64 0, .string ByteArray.empty, .int .i64 0, .int .i64 0, .slice none 0 0, .int .i64 0, .slice none 0 0, .int .i64 0, .slice none 0 0] 34)) w1) => (show Calls Tryd.prog 87 #[_] w1 (MadeM w1 (bareT t)) from l4Bare_any t _ _ w1 ((hat0.below hb0).below h1) hok hsz))
  have HO1 : Hid (vldM t = true → bOk t) := hid bOk_vldM
  have HO2 : Hid (vldC t = true → bOk t) := hid bOk_vldC
  have HE := hid (show brT t = if (vldM t || vldC t) = true then bareT t else nilTm from rfl)
  generalize brT t = E at *
  generalize bareT t = R at *
  generalize vldM t = p1 at *
  generalize vldC t = p2 at *
  clear hat hat0 hb0
  go_enter Tryd.func37, Tryd.ntmps37
  go_wp2_with fail
  refine HV1.out.mono ?_
  rintro e w1 ⟨rfl, hb1⟩
  obtain ⟨hB, hZ⟩ := two_out hb1
  obtain ⟨x0, x1, x2, x3, x4, x5, x6, x7, x8⟩ := cells9 hB
  have hM : w.heap.size + 1 < w1.heap.size := lt_of_block hZ
  cases p1
  case true =>
    rw [Bool.true_or, if_pos rfl] at HE
    try rw [Bool.true_or]
    have HBX := hid hb1
    have HZB := hid hZ
    clear hb1 hB hZ
    go_wp2_with fail
    refine (HCL.out (HO1.out (by trivial)) w1 HBX.out).mono ?_
    rintro e wz ⟨v', f', rfl, hu, hf, hbz⟩
    obtain ⟨r0, r1, r2, r3, r4, r5, r6, r7, r8, r9, r10, r11, r12, r13, r14, rfl⟩ := hu.agg
    have hZ2 := blk HZB.out hbz
    obtain ⟨y0, y1, y2, y3, y4, y5, y6, y7, y8⟩ := cells9 hZ2
    have yz := fun o => frozen_of_block (o := o) hZ2
    have hM2 : w.heap.size + 1 < wz.heap.size := lt_of_block hZ2
    have hs1 : w.heap.size + 1 < w1.heap.size := lt_of_block HZB.out
    have ab : Above w1.heap.size wz (put wz (w.heap.size + 1) 0 [.int .i64 r0, .string r1, .int .i64 r2, .int .i64 r3, .slice r5 r4 r6, .int .i64 r7, .slice r9 r8 r10, .int .i64 r11, .slice r13 r12 r14]) := (Above.refl _ _).put (by omega)
    have hbb : Below w.heap.size w (put wz (w.heap.size + 1) 0 [.int .i64 r0, .string r1, .int .i64 r2, .int .i64 r3, .slice r5 r4 r6, .int .i64 r7, .slice r9 r8 r10, .int .i64 r11, .slice r13 r12 r14]) := below_put (below_trans (below_trans HB0.out HBX.out) hbz) (by omega)
    have FIN := hid (show MadeBr w E true (.returned (.tuple #[.agg (Array.mk [.int .i64 r0, .string r1, .int .i64 r2, .int .i64 r3, .slice r5 r4 r6, .int .i64 r7, .slice r9 r8 r10, .int .i64 r11, .slice r13 r12 r14]), .bool true])) (put wz (w.heap.size + 1) 0 [.int .i64 r0, .string r1, .int .i64 r2, .int .i64 r3, .slice r5 r4 r6, .int .i64 r7, .slice r9 r8 r10, .int .i64 r11, .slice r13 r12 r14]) from ⟨_, f', rfl, by rw [HE.out]; exact hu.above ab hf.ge, (hf.above ab (Nat.le_refl _)).mono (by omega), hbb⟩)
    clear hZ2 hu hf hbz ab hbb x0 x1 x2 x3 x4 x5 x6 x7 x8
    go_wp2_with fail
    exact bodyPost_ret (v := .tuple #[.agg (Array.mk [.int .i64 r0, .string r1, .int .i64 r2, .int .i64 r3, .slice r5 r4 r6, .int .i64 r7, .slice r9 r8 r10, .int .i64 r11, .slice r13 r12 r14]), .bool true]) (by simp [results, Tryd.results37, go_sem, y0, y1, y2, y3, y4, y5, y6, y7, y8]) rfl FIN.out
  case false =>
  have HB1 := hid hb1
  have HBB := hid (And.intro hB hZ)
  clear hb1 hB hZ
  go_wp2_with fail
  refine (HV2.out w1 HB1.out).mono ?_
  rintro e w2 ⟨rfl, hb2⟩
  have hB := blk HBB.out.1 hb2
  have hZ := blk HBB.out.2 hb2
  clear x0 x1 x2 x3 x4 x5 x6 x7 x8 hM
  obtain ⟨x0, x1, x2, x3, x4, x5, x6, x7, x8⟩ := cells9 hB
  have hM : w.heap.size + 1 < w2.heap.size := lt_of_block hZ
  have HBX := hid (below_trans HB1.out hb2)
  cases p2
  case true =>
    rw [Bool.false_or, if_pos rfl] at HE
    try rw [Bool.false_or]
    have HZB := hid hZ
    clear hb2 hB hZ
    go_wp2_with fail
    refine (HCL.out (HO2.out (by trivial)) w2 HBX.out).mono ?_
    rintro e wz ⟨v', f', rfl, hu, hf, hbz⟩
    obtain ⟨r0, r1, r2, r3, r4, r5, r6, r7, r8, r9, r10, r11, r12, r13, r14, rfl⟩ := hu.agg
    have hZ2 := blk HZB.out hbz
    obtain ⟨y0, y1, y2, y3, y4, y5, y6, y7, y8⟩ := cells9 hZ2
    have yz := fun o => frozen_of_block (o := o) hZ2
    have hM2 : w.heap.size + 1 < wz.heap.size := lt_of_block hZ2
    have hs1 : w.heap.size + 1 < w2.heap.size := lt_of_block HZB.out
    have ab : Above w2.heap.size wz (put wz (w.heap.size + 1) 0 [.int .i64 r0, .string r1, .int .i64 r2, .int .i64 r3, .slice r5 r4 r6, .int .i64 r7, .slice r9 r8 r10, .int .i64 r11, .slice r13 r12 r14]) := (Above.refl _ _).put (by omega)
    have hbb : Below w.heap.size w (put wz (w.heap.size + 1) 0 [.int .i64 r0, .string r1, .int .i64 r2, .int .i64 r3, .slice r5 r4 r6, .int .i64 r7, .slice r9 r8 r10, .int .i64 r11, .slice r13 r12 r14]) := below_put (below_trans (below_trans HB0.out HBX.out) hbz) (by omega)
    have FIN := hid (show MadeBr w E true (.returned (.tuple #[.agg (Array.mk [.int .i64 r0, .string r1, .int .i64 r2, .int .i64 r3, .slice r5 r4 r6, .int .i64 r7, .slice r9 r8 r10, .int .i64 r11, .slice r13 r12 r14]), .bool true])) (put wz (w.heap.size + 1) 0 [.int .i64 r0, .string r1, .int .i64 r2, .int .i64 r3, .slice r5 r4 r6, .int .i64 r7, .slice r9 r8 r10, .int .i64 r11, .slice r13 r12 r14]) from ⟨_, f', rfl, by rw [HE.out]; exact hu.above ab hf.ge, (hf.above ab (Nat.le_refl _)).mono (by omega), hbb⟩)
    clear hZ2 hu hf hbz ab hbb x0 x1 x2 x3 x4 x5 x6 x7 x8
    go_wp2_with fail
    exact bodyPost_ret (v := .tuple #[.agg (Array.mk [.int .i64 r0, .string r1, .int .i64 r2, .int .i64 r3, .slice r5 r4 r6, .int .i64 r7, .slice r9 r8 r10, .int .i64 r11, .slice r13 r12 r14]), .bool true]) (by simp [results, Tryd.results37, go_sem, y0, y1, y2, y3, y4, y5, y6, y7, y8]) rfl FIN.out
  case false =>
    rw [Bool.false_or, if_neg (by decide)] at HE
    try rw [Bool.false_or]
    obtain ⟨y0, y1, y2, y3, y4, y5, y6, y7, y8⟩ := cells9 hZ
    have yz := fun o => frozen_of_block (o := o) hZ
    have FIN := hid (show MadeBr w E false (.returned (.tuple #[.agg (Array.mk [.int .i64 0, .string ByteArray.empty, .int .i64 0, .int .i64 0, .slice none 0 0, .int .i64 0, .slice none 0 0, .int .i64 0, .slice none 0 0]), .bool false])) (put w2 (w.heap.size + 1) 0 [.int .i64 0, .string ByteArray.empty, .int .i64 0, .int .i64 0, .slice none 0 0, .int .i64 0, .slice none 0 0, .int .i64 0, .slice none 0 0]) from ⟨_, [], rfl, by rw [HE.out]; exact nilTm_at _, Fresh.nil _ _, below_put (below_trans HB0.out HBX.out) (by omega)⟩)
    clear hB hZ hb2
    go_wp2_with fail
    exact bodyPost_ret (v := .tuple #[.agg (Array.mk [.int .i64 0, .string ByteArray.empty, .int .i64 0, .int .i64 0, .slice none 0 0, .int .i64 0, .slice none 0 0, .int .i64 0, .slice none 0 0]), .bool false]) (by simp [results, Tryd.results37, go_sem, y0, y1, y2, y3, y4, y5, y6, y7, y8]; rfl) rfl FIN.out

set_option maxRecDepth 100000 in
set_option maxHeartbeats 4000000 in
theorem implBareTerm (t : Tm) (v : Value) (fp : List Nat) (w : World) (hsz : t.sz ≤ 1048576) (hF : Forms w) (hat : t.At w v fp) :
    Calls Tryd.prog 38 #[v] w (MadeBr w (brT t) (vldM t || vldC t)) := by
  have hat0 := hat
  obtain ⟨k, nm, num, k1, n1, a1, c1, k2, n2, a2, c2, lb, n3, a3, c3, rfl⟩ := hat.agg
  have hb0 : Below w.heap.size w ((w.alloc (Obj.cells #[.int .i64 k, .string nm, .int .i64 num, .int .i64 k1, .slice a1 n1 c1, .int .i64 k2, .slice a2 n2 c2, .int .i64 lb, .slice a3 n3 c3] 34)).alloc (Obj.cells #[.int .i64 0, .string ByteArray.empty, .int .i64 0, .int .i64 0, .slice none 0 0, .int .i64 0, .slice none 0 0, .int .i64 0, .slice none 0 0] 34)) := ((Below.refl _ _).alloc (Nat.le_refl _) _).alloc (by simp) _
  have HB0 := hid hb0
  have HV1 := hid (show Calls Tryd.prog 58 #[_] ((w.alloc (Obj.cells #[.int .i64 k, .string nm, .int .i64 num, .int .i64 k1, .slice a1 n1 c1, .int .i64 k2, .slice a2 n2 c2, .int .i64 lb, .slice a3 n3 c3] 34)).alloc (Obj.cells #[.int .i64 0, .string ByteArray.empty, .int .i64 0, .int .i64 0, .slice none 0 0, .int .i64 0, .slice none 0 0, .int .i64 0, .slice none 0 0] 34)) _ from implTermValid t _ _ _ (hF.below hb0) (hat0.below hb0))
  have HV2 := hid (fun (w1 : World) (h1 : Below (((w.alloc (Obj.cells #[.int .i64 k, .string nm, .int .i64 num, .int .i64 k1, .slice a1 n1 c1, .int .i64 k2, .slice a2 n2 c2, .int .i64 lb, .slice a3 n3 c3] 34)).alloc (Obj.cells #[.int .i64 0, .string ByteArray.empty, .int .i64 0, .int .i64 0, .slice none 0 0, .int .i64 0, .slice none 0 0, .int .i64 0, .slice none 0 0] 34))).heap.size ((w.alloc (Obj.cells #[.int .i64 k, .string nm, .int .i64 num, .int .i64 k1, .slice a1 n1 c1, .int .i64 k2, .slice a2 n2 c2, .int .i64 lb, .slice a3 n3 c3] 34)).alloc (Obj.cells #[.int .i64 0, .string ByteArray.empty, .int .i64 0, .int .i64 0, .slice none 0 0, .int .i64 0, .slice none 0 0, .int .i64 0, .slice none 0 0] 34)) w1) => (show Calls Tryd.prog 88 #[_] w1 _ from implCastValid t _ _ _ ((hF.below hb0).below h1) ((hat0.below hb0).below h1)))
  have HCL := hid (fun (hok : bOk t) (w1 : World) (h1 : Below (((w.alloc (Obj.cells #[.int .i64 k, .string nm, .int .i64 num, .int .i64 k1, .slice a1 n1 c1, .int .i64 k2, .slice a2 n2 c2, .int .i64 lb, .slice a3 n3 c3] 34)).alloc (Obj.cells #[.int .i64 0, .string ByteArray.empty, .int .i64 0, .int .i64 0, .slice none 0 0, .int .i64 0, .slice none 0 0, .int .i64 0, .slice none 0 0] 34))).heap.size ((w.alloc (Obj.cells #[.int .i64 k, .string nm, .int .i64 num, .int .i64 k1, .slice a1 n1 c1, .int .i64 k2, .slice a2 n2 c2, .int .i64 lb, .slice a3 n3 c3] 34)).alloc (Obj.cells #[.int .i64 0, .string ByteArray.empty, .int .i64 0, .int .i64 0, .slice none 0 0, .int .i64 0, .slice none 0 0, .int .i64 0, .slice none 0 0] 34)) w1) => (show Calls Tryd.prog 59 #[_, .func (.func 89) #[] #[]] w1 (MadeM w1 (bareT t)) from rewriteBare_any t _ fp w1 hsz hok ((hat0.below hb0).below h1)))
  have HO1 : Hid (vldM t = true → bOk t) := hid bOk_vldM
  have HO2 : Hid (vldC t = true → bOk t) := hid bOk_vldC
  have HE := hid (show brT t = if (vldM t || vldC t) = true then bareT t else nilTm from rfl)
  generalize brT t = E at *
  generalize bareT t = R at *
  generalize vldM t = p1 at *
  generalize vldC t = p2 at *
  clear hat hat0 hb0
  go_enter Tryd.func38, Tryd.ntmps38
  go_wp2_with fail
  refine HV1.out.mono ?_
  rintro e w1 ⟨rfl, hb1⟩
  obtain ⟨hB, hZ⟩ := two_out hb1
  obtain ⟨x0, x1, x2, x3, x4, x5, x6, x7, x8⟩ := cells9 hB
  have hM : w.heap.size + 1 < w1.heap.size := lt_of_block hZ
  cases p1
  case true =>
    rw [Bool.true_or, if_pos rfl] at HE
    try rw [Bool.true_or]
    have HBX := hid hb1
    have HZB := hid hZ
    clear hb1 hB hZ
    go_wp2_with fail
    refine (HCL.out (HO1.out (by trivial)) w1 HBX.out).mono ?_
    rintro e wz ⟨v', f', rfl, hu, hf, hbz⟩
    obtain ⟨r0, r1, r2, r3, r4, r5, r6, r7, r8, r9, r10, r11, r12, r13, r14, rfl⟩ := hu.agg
    have hZ2 := blk HZB.out hbz
    obtain ⟨y0, y1, y2, y3, y4, y5, y6, y7, y8⟩ := cells9 hZ2
    have yz := fun o => frozen_of_block (o := o) hZ2
    have hM2 : w.heap.size + 1 < wz.heap.size := lt_of_block hZ2
    have hs1 : w.heap.size + 1 < w1.heap.size := lt_of_block HZB.out
    have ab : Above w1.heap.size wz (put wz (w.heap.size + 1) 0 [.int .i64 r0, .string r1, .int .i64 r2, .int .i64 r3, .slice r5 r4 r6, .int .i64 r7, .slice r9 r8 r10, .int .i64 r11, .slice r13 r12 r14]) := (Above.refl _ _).put (by omega)
    have hbb : Below w.heap.size w (put wz (w.heap.size + 1) 0 [.int .i64 r0, .string r1, .int .i64 r2, .int .i64 r3, .slice r5 r4 r6, .int .i64 r7, .slice r9 r8 r10, .int .i64 r11, .slice r13 r12 r14]) := below_put (below_trans (below_trans HB0.out HBX.out) hbz) (by omega)
    have FIN := hid (show MadeBr w E true (.returned (.tuple #[.agg (Array.mk [.int .i64 r0, .string r1, .int .i64 r2, .int .i64 r3, .slice r5 r4 r6, .int .i64 r7, .slice r9 r8 r10, .int .i64 r11, .slice r13 r12 r14]), .bool true])) (put wz (w.heap.size + 1) 0 [.int .i64 r0, .string r1, .int .i64 r2, .int .i64 r3, .slice r5 r4 r6, .int .i64 r7, .slice r9 r8 r10, .int .i64 r11, .slice r13 r12 r14]) from ⟨_, f', rfl, by rw [HE.out]; exact hu.above ab hf.ge, (hf.above ab (Nat.le_refl _)).mono (by omega), hbb⟩)
    clear hZ2 hu hf hbz ab hbb x0 x1 x2 x3 x4 x5 x6 x7 x8
    go_wp2_with fail
    exact bodyPost_ret (v := .tuple #[.agg (Array.mk [.int .i64 r0, .string r1, .int .i64 r2, .int .i64 r3, .slice r5 r4 r6, .int .i64 r7, .slice r9 r8 r10, .int .i64 r11, .slice r13 r12 r14]), .bool true]) (by simp [results, Tryd.results38, go_sem, y0, y1, y2, y3, y4, y5, y6, y7, y8]) rfl FIN.out
  case false =>
  have HB1 := hid hb1
  have HBB := hid (And.intro hB hZ)
  clear hb1 hB hZ
  go_wp2_with fail
  refine (HV2.out w1 HB1.out).mono ?_
  rintro e w2 ⟨rfl, hb2⟩
  have hB := blk HBB.out.1 hb2
  have hZ := blk HBB.out.2 hb2
  clear x0 x1 x2 x3 x4 x5 x6 x7 x8 hM
  obtain ⟨x0, x1, x2, x3, x4, x5, x6, x7, x8⟩ := cells9 hB
  have hM : w.heap.size + 1 < w2.heap.size := lt_of_block hZ
  have HBX := hid (below_trans HB1.out hb2)
  cases p2
  case true =>
    rw [Bool.false_or, if_pos rfl] at HE
    try rw [Bool.false_or]
    have HZB := hid hZ
    clear hb2 hB hZ
    go_wp2_with fail
    refine (HCL.out (HO2.out (by trivial)) w2 HBX.out).mono ?_
    rintro e wz ⟨v', f', rfl, hu, hf, hbz⟩
    obtain ⟨r0, r1, r2, r3, r4, r5, r6, r7, r8, r9, r10, r11, r12, r13, r14, rfl⟩ := hu.agg
    have hZ2 := blk HZB.out hbz
    obtain ⟨y0, y1, y2, y3, y4, y5, y6, y7, y8⟩ := cells9 hZ2
    have yz := fun o => frozen_of_block (o := o) hZ2
    have hM2 : w.heap.size + 1 < wz.heap.size := lt_of_block hZ2
    have hs1 : w.heap.size + 1 < w2.heap.size := lt_of_block HZB.out
    have ab : Above w2.heap.size wz (put wz (w.heap.size + 1) 0 [.int .i64 r0, .string r1, .int .i64 r2, .int .i64 r3, .slice r5 r4 r6, .int .i64 r7, .slice r9 r8 r10, .int .i64 r11, .slice r13 r12 r14]) := (Above.refl _ _).put (by omega)
    have hbb : Below w.heap.size w (put wz (w.heap.size + 1) 0 [.int .i64 r0, .string r1, .int .i64 r2, .int .i64 r3, .slice r5 r4 r6, .int .i64 r7, .slice r9 r8 r10, .int .i64 r11, .slice r13 r12 r14]) := below_put (below_trans (below_trans HB0.out HBX.out) hbz) (by omega)
    have FIN := hid (show MadeBr w E true (.returned (.tuple #[.agg (Array.mk [.int .i64 r0, .string r1, .int .i64 r2, .int .i64 r3, .slice r5 r4 r6, .int .i64 r7, .slice r9 r8 r10, .int .i64 r11, .slice r13 r12 r14]), .bool true])) (put wz (w.heap.size + 1) 0 [.int .i64 r0, .string r1, .int .i64 r2, .int .i64 r3, .slice r5 r4 r6, .int .i64 r7, .slice r9 r8 r10, .int .i64 r11, .slice r13 r12 r14]) from ⟨_, f', rfl, by rw [HE.out]; exact hu.above ab hf.ge, (hf.above ab (Nat.le_refl _)).mono (by omega), hbb⟩)
    clear hZ2 hu hf hbz ab hbb x0 x1 x2 x3 x4 x5 x6 x7 x8
    go_wp2_with fail
    exact bodyPost_ret (v := .tuple #[.agg (Array.mk [.int .i64 r0, .string r1, .int .i64 r2, .int .i64 r3, .slice r5 r4 r6, .int .i64 r7, .slice r9 r8 r10, .int .i64 r11, .slice r13 r12 r14]), .bool true]) (by simp [results, Tryd.results38, go_sem, y0, y1, y2, y3, y4, y5, y6, y7, y8]) rfl FIN.out
  case false =>
    rw [Bool.false_or, if_neg (by decide)] at HE
    try rw [Bool.false_or]
    obtain ⟨y0, y1, y2, y3, y4, y5, y6, y7, y8⟩ := cells9 hZ
    have yz := fun o => frozen_of_block (o := o) hZ
    have FIN := hid (show MadeBr w E false (.returned (.tuple #[.agg (Array.mk [.int .i64 0, .string ByteArray.empty, .int .i64 0, .int .i64 0, .slice none 0 0, .int .i64 0, .slice none 0 0, .int .i64 0, .slice none 0 0]), .bool false])) (put w2 (w.heap.size + 1) 0 [.int .i64 0, .string ByteArray.empty, .int .i64 0, .int .i64 0, .slice none 0 0, .int .i64 0, .slice none 0 0, .int .i64 0, .slice none 0 0]) from ⟨_, [], rfl, by rw [HE.out]; exact nilTm_at _, Fresh.nil _ _, below_put (below_trans HB0.out HBX.out) (by omega)⟩)
    clear hB hZ hb2
    go_wp2_with fail
    exact bodyPost_ret (v := .tuple #[.agg (Array.mk [.int .i64 0, .string ByteArray.empty, .int .i64 0, .int .i64 0, .slice none 0 0, .int .i64 0, .slice none 0 0, .int .i64 0, .slice none 0 0]), .bool false]) (by simp [results, Tryd.results38, go_sem, y0, y1, y2, y3, y4, y5, y6, y7, y8]; rfl) rfl FIN.out
end Go.Proofs.YtdehhobpfaaboaaDoor

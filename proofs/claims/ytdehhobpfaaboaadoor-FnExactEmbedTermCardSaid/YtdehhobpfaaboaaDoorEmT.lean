/- EmbedTerm of the specification and of the program. -/
import Derived.Test.YtdehhobpfaaboaaDoorEmU
import Derived.Test.YtdehhobpfaaboaaDoorEmS
import Derived.Test.YtdehhobpfaaboaaDoorEmW
import Derived.Test.YtdehhobpfaaboaaDoorCnM
namespace Go.Proofs.YtdehhobpfaaboaaDoor
open Go.RowKit

set_option linter.unusedVariables false in
set_option maxRecDepth 100000 in
set_option maxHeartbeats 4000000 in
theorem specEmbedTerm (t : Tm) (v : Value) (fp : List Nat) (w : World) (hsz : t.sz ≤ 1048576) (hat : t.At w v fp) :
    Calls Tryd.prog 15 #[v] w (MadeEm w (emT t) (emOk t)) := by
  have hat0 := hat
  obtain ⟨k, nm, num, k1, n1, a1, c1, k2, n2, a2, c2, lb, n3, a3, c3, rfl⟩ := hat.agg
  have hb0 : Below w.heap.size w ((w.alloc (Obj.cells #[.int .i64 k, .string nm, .int .i64 num, .int .i64 k1, .slice a1 n1 c1, .int .i64 k2, .slice a2 n2 c2, .int .i64 lb, .slice a3 n3 c3] 34)).alloc (Obj.cells #[.int .i64 0, .string ⟨#[]⟩, .int .i64 0, .int .i64 0, .slice none 0 0, .int .i64 0, .slice none 0 0, .int .i64 0, .slice none 0 0] 34)) := ((Below.refl _ _).alloc (Nat.le_refl _) _).alloc (by simp) _
  have HB0 := hid hb0
  have HV1 := hid (show Calls Tryd.prog 54 #[_] ((w.alloc (Obj.cells #[.int .i64 k, .string nm, .int .i64 num, .int .i64 k1, .slice a1 n1 c1, .int .i64 k2, .slice a2 n2 c2, .int .i64 lb, .slice a3 n3 c3] 34)).alloc (Obj.cells #[.int .i64 0, .string ⟨#[]⟩, .int .i64 0, .int .i64 0, .slice none 0 0, .int .i64 0, .slice none 0 0, .int .i64 0, .slice none 0 0] 34)) _ from specTermValid t _ _ _ hsz (hat0.below hb0))
  have HV2 := hid (fun (u : Tm) (hu : u.sz ≤ 1048576) (x : Value) (fx : List Nat) (W : World) (hw : Below (((w.alloc (Obj.cells #[.int .i64 k, .string nm, .int .i64 num, .int .i64 k1, .slice a1 n1 c1, .int .i64 k2, .slice a2 n2 c2, .int .i64 lb, .slice a3 n3 c3] 34)).alloc (Obj.cells #[.int .i64 0, .string ⟨#[]⟩, .int .i64 0, .int .i64 0, .slice none 0 0, .int .i64 0, .slice none 0 0, .int .i64 0, .slice none 0 0] 34))).heap.size ((w.alloc (Obj.cells #[.int .i64 k, .string nm, .int .i64 num, .int .i64 k1, .slice a1 n1 c1, .int .i64 k2, .slice a2 n2 c2, .int .i64 lb, .slice a3 n3 c3] 34)).alloc (Obj.cells #[.int .i64 0, .string ⟨#[]⟩, .int .i64 0, .int .i64 0, .slice none 0 0, .int .i64 0, .slice none 0 0, .int .i64 0, .slice none 0 0] 34)) W) (hx : u.At W x fx) => specTermValid u x fx W hu hx)
  have HCL := hid (fun (hv : vldM t = true) (w1 : World) (h1 : Below (((w.alloc (Obj.cells #[.int .i64 k, .string nm, .int .i64 num, .int .i64 k1, .slice a1 n1 c1, .int .i64 k2, .slice a2 n2 c2, .int .i64 lb, .slice a3 n3 c3] 34)).alloc (Obj.cells #[.int .i64 0, .string ⟨#[]⟩, .int .i64 0, .int .i64 0, .slice none 0 0, .int .i64 0, .slice none 0 0, .int .i64 0, .slice none 0 0] 34))).heap.size ((w.alloc (Obj.cells #[.int .i64 k, .string nm, .int .i64 num, .int .i64 k1, .slice a1 n1 c1, .int .i64 k2, .slice a2 n2 c2, .int .i64 lb, .slice a3 n3 c3] 34)).alloc (Obj.cells #[.int .i64 0, .string ⟨#[]⟩, .int .i64 0, .int .i64 0, .slice none 0 0, .int .i64 0, .slice none 0 0, .int .i64 0, .slice none 0 0] 34)) w1) => (show Calls Tryd.prog 55 #[_] w1 (MadeM w1 (embT t)) from l9Embed_any t _ _ w1 ((hat0.below hb0).below h1) (bOk_vldE hv) (nc_vldM hv) hsz))
  have HSM : Hid (vldM t = true → (embT t).sz ≤ 1048576) := hid (fun hv => by have := (embT_small hv).1; omega)
  have HE := hid (show emT t = if emOk t = true then embT t else noTm from rfl)
  have HK := hid (show emOk t = (vldM t && vldM (embT t)) from rfl)
  generalize emT t = E at *
  generalize emOk t = ok at *
  generalize embT t = R at *
  generalize hp2 : vldM R = p2 at *
  have HP2 := hid hp2
  clear hp2
  cases hp1 : vldM t
  case false =>
    rw [hp1] at HV1
    rw [hp1, Bool.false_and] at HK
    obtain rfl := HK.out
    rw [if_neg (by decide)] at HE
    rw [HE.out]
    clear HV2 HCL HSM HK HE HP2 hp1 hat hat0 hb0
    go_enter Tryd.func15, Tryd.ntmps15
    go_wp2_with fail
    refine HV1.out.mono ?_
    rintro e w1 ⟨rfl, hb1⟩
    obtain ⟨hB, hZ⟩ := two_out hb1
    obtain ⟨y0, y1, y2, y3, y4, y5, y6, y7, y8⟩ := cells9 hZ
    have yz := fun o => frozen_of_block (o := o) hZ
    have hM : w.heap.size + 1 < w1.heap.size := lt_of_block hZ
    have FIN := hid (show MadeEm w noTm false (.returned (.tuple #[.agg (Array.mk [.int .i64 0, .string ⟨#[]⟩, .int .i64 0, .int .i64 0, .slice none 0 0, .int .i64 0, .slice none 0 0, .int .i64 0, .slice none 0 0]), .bool false])) (put w1 (w.heap.size + 1) 0 [.int .i64 0, .string ⟨#[]⟩, .int .i64 0, .int .i64 0, .slice none 0 0, .int .i64 0, .slice none 0 0, .int .i64 0, .slice none 0 0]) from ⟨_, [], rfl, noTm_at _, Fresh.nil _ _, below_put (below_trans HB0.out hb1) (by omega)⟩)
    simp only [put, Nat.zero_add, Nat.reduceAdd] at FIN
    clear hb1 hB hZ
    go_wp2_with fail
    exact bodyPost_ret (v := .tuple #[.agg #[.int .i64 0, .string ⟨#[]⟩, .int .i64 0, .int .i64 0, .slice none 0 0, .int .i64 0, .slice none 0 0, .int .i64 0, .slice none 0 0], .bool false]) (by simp [results, Tryd.results15, go_sem, y0, y1, y2, y3, y4, y5, y6, y7, y8]) rfl FIN.out
  case true =>
  rw [hp1] at HV1
  rw [hp1, Bool.true_and] at HK
  obtain rfl := HK.out.symm
  have HCLT := hid (HCL.out hp1)
  have HSMT := hid (HSM.out hp1)
  clear HCL HSM HK hp1 hat hat0 hb0
  go_enter Tryd.func15, Tryd.ntmps15
  go_wp2_with fail
  refine HV1.out.mono ?_
  rintro e w1 ⟨rfl, hb1⟩
  obtain ⟨hB, hZ⟩ := two_out hb1
  obtain ⟨x0, x1, x2, x3, x4, x5, x6, x7, x8⟩ := cells9 hB
  have hM : w.heap.size + 1 < w1.heap.size := lt_of_block hZ
  have HBX := hid hb1
  have HZB := hid hZ
  clear hb1 hB hZ
  go_wp2_with fail
  refine (HCLT.out w1 HBX.out).mono ?_
  rintro e w2 ⟨v', f', rfl, hu, hf, hb2⟩
  obtain ⟨r0, r1, r2, r3, r4, r5, r6, r7, r8, r9, r10, r11, r12, r13, r14, rfl⟩ := hu.agg
  obtain ⟨W4, hW4⟩ : ∃ W4, W4 = w2.alloc (Obj.cells #[.int .i64 r0, .string r1, .int .i64 r2, .int .i64 r3, .slice r5 r4 r6, .int .i64 r7, .slice r9 r8 r10, .int .i64 r11, .slice r13 r12 r14] 34) := ⟨_, rfl⟩
  have hal : Below w2.heap.size w2 W4 := by rw [hW4]; exact (Below.refl _ _).alloc (Nat.le_refl _) _
  have hE4 : W4.heap[w2.heap.size]? = some (Obj.cells #[.int .i64 r0, .string r1, .int .i64 r2, .int .i64 r3, .slice r5 r4 r6, .int .i64 r7, .slice r9 r8 r10, .int .i64 r11, .slice r13 r12 r14] 34) := by rw [hW4]; exact alloc_new _ _
  have hb14 := below_trans hb2 hal
  have HV3 := hid (HV2.out R HSMT.out _ _ W4 (below_trans HBX.out hb14) (hu.below hal))
  rw [HP2.out] at HV3
  have HU := hid (And.intro (hu.below hal) (And.intro (hf.below hal) (below_trans (below_trans HB0.out HBX.out) hb14)))
  have HZ4 := hid (blk HZB.out hb14)
  have HE4 := hid hE4
  have HS := hid hb2.size
  have HW4 := hid hW4
  obtain ⟨q0, q1, q2, q3, q4, q5, q6, q7, q8⟩ := cells9 hE4
  rw [hW4] at q0 q1 q2 q3 q4 q5 q6 q7 q8
  clear hal hE4 hb14 hu hf hb2 hW4 HV2 HCLT HV1
  go_wp2_with fail
  rw [← HW4.out]
  refine HV3.out.mono ?_
  rintro e w5 ⟨rfl, hb5⟩
  have hE5 := blk HE4.out hb5
  have hZ5 := blk HZ4.out hb5
  obtain ⟨y0, y1, y2, y3, y4, y5, y6, y7, y8⟩ := cells9 hZ5
  have yz := fun o => frozen_of_block (o := o) hZ5
  have hM5 : w.heap.size + 1 < w5.heap.size := lt_of_block hZ5
  cases p2
  case false =>
    rw [if_neg (by decide)] at HE
    have FIN := hid (show MadeEm w noTm false (.returned (.tuple #[.agg (Array.mk [.int .i64 0, .string ⟨#[]⟩, .int .i64 0, .int .i64 0, .slice none 0 0, .int .i64 0, .slice none 0 0, .int .i64 0, .slice none 0 0]), .bool false])) (put w5 (w.heap.size + 1) 0 [.int .i64 0, .string ⟨#[]⟩, .int .i64 0, .int .i64 0, .slice none 0 0, .int .i64 0, .slice none 0 0, .int .i64 0, .slice none 0 0]) from ⟨_, [], rfl, noTm_at _, Fresh.nil _ _, below_put (below_trans HU.out.2.2 hb5) (by omega)⟩)
    simp only [put, Nat.zero_add, Nat.reduceAdd] at FIN
    clear hb5 hE5 hZ5 q0 q1 q2 q3 q4 q5 q6 q7 q8
    go_wp2_with fail
    exact bodyPost_ret (v := .tuple #[.agg #[.int .i64 0, .string ⟨#[]⟩, .int .i64 0, .int .i64 0, .slice none 0 0, .int .i64 0, .slice none 0 0, .int .i64 0, .slice none 0 0], .bool false]) (by simp [results, Tryd.results15, go_sem, y0, y1, y2, y3, y4, y5, y6, y7, y8]) rfl (by rw [HE.out]; exact FIN.out)
  case true =>
    rw [if_pos rfl] at HE
    have ab : Above w1.heap.size w5 (put w5 (w.heap.size + 1) 0 [.int .i64 r0, .string r1, .int .i64 r2, .int .i64 r3, .slice r5 r4 r6, .int .i64 r7, .slice r9 r8 r10, .int .i64 r11, .slice r13 r12 r14]) := (Above.refl _ _).put hM
    have FIN := hid (show MadeEm w R true (.returned (.tuple #[.agg (Array.mk [.int .i64 r0, .string r1, .int .i64 r2, .int .i64 r3, .slice r5 r4 r6, .int .i64 r7, .slice r9 r8 r10, .int .i64 r11, .slice r13 r12 r14]), .bool true])) (put w5 (w.heap.size + 1) 0 [.int .i64 r0, .string r1, .int .i64 r2, .int .i64 r3, .slice r5 r4 r6, .int .i64 r7, .slice r9 r8 r10, .int .i64 r11, .slice r13 r12 r14]) from ⟨_, _, rfl, (HU.out.1.below hb5).above ab (HU.out.2.1.below hb5).ge, ((HU.out.2.1.below hb5).above ab (Nat.le_refl _)).mono (by omega), below_put (below_trans HU.out.2.2 hb5) (by omega)⟩)
    simp only [put, Nat.zero_add, Nat.reduceAdd] at FIN
    clear q0 q1 q2 q3 q4 q5 q6 q7 q8
    obtain ⟨q0, q1, q2, q3, q4, q5, q6, q7, q8⟩ := cells9 hE5
    have hlt : w.heap.size + 1 < w2.heap.size := by have := HS.out; omega
    have hlt2 : w2.heap.size < w5.heap.size := lt_of_block hE5
    clear hb5 hE5 hZ5 ab
    go_wp2_with fail
    exact bodyPost_ret (v := .tuple #[.agg #[.int .i64 r0, .string r1, .int .i64 r2, .int .i64 r3, .slice r5 r4 r6, .int .i64 r7, .slice r9 r8 r10, .int .i64 r11, .slice r13 r12 r14], .bool true]) (by simp [results, Tryd.results15, go_sem, y0, y1, y2, y3, y4, y5, y6, y7, y8]) rfl (by rw [HE.out]; exact FIN.out)
set_option linter.unusedVariables false in
set_option maxRecDepth 100000 in
set_option maxHeartbeats 4000000 in
theorem implEmbedTerm (t : Tm) (v : Value) (fp : List Nat) (w : World) (hsz : t.sz ≤ 1048576) (hF : Forms w) (hat : t.At w v fp) :
    Calls Tryd.prog 17 #[v] w (MadeEm w (emT t) (emOk t)) := by
  have hat0 := hat
  obtain ⟨k, nm, num, k1, n1, a1, c1, k2, n2, a2, c2, lb, n3, a3, c3, rfl⟩ := hat.agg
  have hb0 : Below w.heap.size w ((w.alloc (Obj.cells #[.int .i64 k, .string nm, .int .i64 num, .int .i64 k1, .slice a1 n1 c1, .int .i64 k2, .slice a2 n2 c2, .int .i64 lb, .slice a3 n3 c3] 34)).alloc (Obj.cells #[.int .i64 0, .string ⟨#[]⟩, .int .i64 0, .int .i64 0, .slice none 0 0, .int .i64 0, .slice none 0 0, .int .i64 0, .slice none 0 0] 34)) := ((Below.refl _ _).alloc (Nat.le_refl _) _).alloc (by simp) _
  have HB0 := hid hb0
  have HV1 := hid (show Calls Tryd.prog 58 #[_] ((w.alloc (Obj.cells #[.int .i64 k, .string nm, .int .i64 num, .int .i64 k1, .slice a1 n1 c1, .int .i64 k2, .slice a2 n2 c2, .int .i64 lb, .slice a3 n3 c3] 34)).alloc (Obj.cells #[.int .i64 0, .string ⟨#[]⟩, .int .i64 0, .int .i64 0, .slice none 0 0, .int .i64 0, .slice none 0 0, .int .i64 0, .slice none 0 0] 34)) _ from implTermValid t _ _ _ (hF.below hb0) (hat0.below hb0))
  have HV2 := hid (fun (u : Tm) (hu : u.sz ≤ 1048576) (x : Value) (fx : List Nat) (W : World) (hw : Below (((w.alloc (Obj.cells #[.int .i64 k, .string nm, .int .i64 num, .int .i64 k1, .slice a1 n1 c1, .int .i64 k2, .slice a2 n2 c2, .int .i64 lb, .slice a3 n3 c3] 34)).alloc (Obj.cells #[.int .i64 0, .string ⟨#[]⟩, .int .i64 0, .int .i64 0, .slice none 0 0, .int .i64 0, .slice none 0 0, .int .i64 0, .slice none 0 0] 34))).heap.size ((w.alloc (Obj.cells #[.int .i64 k, .string nm, .int .i64 num, .int .i64 k1, .slice a1 n1 c1, .int .i64 k2, .slice a2 n2 c2, .int .i64 lb, .slice a3 n3 c3] 34)).alloc (Obj.cells #[.int .i64 0, .string ⟨#[]⟩, .int .i64 0, .int .i64 0, .slice none 0 0, .int .i64 0, .slice none 0 0, .int .i64 0, .slice none 0 0] 34)) W) (hx : u.At W x fx) => implTermValid u x fx W ((hF.below hb0).below hw) hx)
  have HCL := hid (fun (hv : vldM t = true) (w1 : World) (h1 : Below (((w.alloc (Obj.cells #[.int .i64 k, .string nm, .int .i64 num, .int .i64 k1, .slice a1 n1 c1, .int .i64 k2, .slice a2 n2 c2, .int .i64 lb, .slice a3 n3 c3] 34)).alloc (Obj.cells #[.int .i64 0, .string ⟨#[]⟩, .int .i64 0, .int .i64 0, .slice none 0 0, .int .i64 0, .slice none 0 0, .int .i64 0, .slice none 0 0] 34))).heap.size ((w.alloc (Obj.cells #[.int .i64 k, .string nm, .int .i64 num, .int .i64 k1, .slice a1 n1 c1, .int .i64 k2, .slice a2 n2 c2, .int .i64 lb, .slice a3 n3 c3] 34)).alloc (Obj.cells #[.int .i64 0, .string ⟨#[]⟩, .int .i64 0, .int .i64 0, .slice none 0 0, .int .i64 0, .slice none 0 0, .int .i64 0, .slice none 0 0] 34)) w1) => (show Calls Tryd.prog 59 #[_, .func (.func 60) #[] #[]] w1 (MadeM w1 (embT t)) from rewriteEmb_any t _ fp w1 hsz (bOk_vldE hv) ((hat0.below hb0).below h1)))
  have HSM : Hid (vldM t = true → (embT t).sz ≤ 1048576) := hid (fun hv => by have := (embT_small hv).1; omega)
  have HE := hid (show emT t = if emOk t = true then embT t else noTm from rfl)
  have HK := hid (show emOk t = (vldM t && vldM (embT t)) from rfl)
  generalize emT t = E at *
  generalize emOk t = ok at *
  generalize embT t = R at *
  generalize hp2 : vldM R = p2 at *
  have HP2 := hid hp2
  clear hp2
  cases hp1 : vldM t
  case false =>
    rw [hp1] at HV1
    rw [hp1, Bool.false_and] at HK
    obtain rfl := HK.out
    rw [if_neg (by decide)] at HE
    rw [HE.out]
    clear HV2 HCL HSM HK HE HP2 hp1 hat hat0 hb0
    go_enter Tryd.func17, Tryd.ntmps17
    go_wp2_with fail
    refine HV1.out.mono ?_
    rintro e w1 ⟨rfl, hb1⟩
    obtain ⟨hB, hZ⟩ := two_out hb1
    obtain ⟨y0, y1, y2, y3, y4, y5, y6, y7, y8⟩ := cells9 hZ
    have yz := fun o => frozen_of_block (o := o) hZ
    have hM : w.heap.size + 1 < w1.heap.size := lt_of_block hZ
    have FIN := hid (show MadeEm w noTm false (.returned (.tuple #[.agg (Array.mk [.int .i64 0, .string ⟨#[]⟩, .int .i64 0, .int .i64 0, .slice none 0 0, .int .i64 0, .slice none 0 0, .int .i64 0, .slice none 0 0]), .bool false])) (put w1 (w.heap.size + 1) 0 [.int .i64 0, .string ⟨#[]⟩, .int .i64 0, .int .i64 0, .slice none 0 0, .int .i64 0, .slice none 0 0, .int .i64 0, .slice none 0 0]) from ⟨_, [], rfl, noTm_at _, Fresh.nil _ _, below_put (below_trans HB0.out hb1) (by omega)⟩)
    simp only [put, Nat.zero_add, Nat.reduceAdd] at FIN
    clear hb1 hB hZ
    go_wp2_with fail
    exact bodyPost_ret (v := .tuple #[.agg #[.int .i64 0, .string ⟨#[]⟩, .int .i64 0, .int .i64 0, .slice none 0 0, .int .i64 0, .slice none 0 0, .int .i64 0, .slice none 0 0], .bool false]) (by simp [results, Tryd.results17, go_sem, y0, y1, y2, y3, y4, y5, y6, y7, y8]) rfl FIN.out
  case true =>
  rw [hp1] at HV1
  rw [hp1, Bool.true_and] at HK
  obtain rfl := HK.out.symm
  have HCLT := hid (HCL.out hp1)
  have HSMT := hid (HSM.out hp1)
  clear HCL HSM HK hp1 hat hat0 hb0
  go_enter Tryd.func17, Tryd.ntmps17
  go_wp2_with fail
  refine HV1.out.mono ?_
  rintro e w1 ⟨rfl, hb1⟩
  obtain ⟨hB, hZ⟩ := two_out hb1
  obtain ⟨x0, x1, x2, x3, x4, x5, x6, x7, x8⟩ := cells9 hB
  have hM : w.heap.size + 1 < w1.heap.size := lt_of_block hZ
  have HBX := hid hb1
  have HZB := hid hZ
  clear hb1 hB hZ
  go_wp2_with fail
  refine (HCLT.out w1 HBX.out).mono ?_
  rintro e w2 ⟨v', f', rfl, hu, hf, hb2⟩
  obtain ⟨r0, r1, r2, r3, r4, r5, r6, r7, r8, r9, r10, r11, r12, r13, r14, rfl⟩ := hu.agg
  obtain ⟨W4, hW4⟩ : ∃ W4, W4 = w2.alloc (Obj.cells #[.int .i64 r0, .string r1, .int .i64 r2, .int .i64 r3, .slice r5 r4 r6, .int .i64 r7, .slice r9 r8 r10, .int .i64 r11, .slice r13 r12 r14] 34) := ⟨_, rfl⟩
  have hal : Below w2.heap.size w2 W4 := by rw [hW4]; exact (Below.refl _ _).alloc (Nat.le_refl _) _
  have hE4 : W4.heap[w2.heap.size]? = some (Obj.cells #[.int .i64 r0, .string r1, .int .i64 r2, .int .i64 r3, .slice r5 r4 r6, .int .i64 r7, .slice r9 r8 r10, .int .i64 r11, .slice r13 r12 r14] 34) := by rw [hW4]; exact alloc_new _ _
  have hb14 := below_trans hb2 hal
  have HV3 := hid (HV2.out R HSMT.out _ _ W4 (below_trans HBX.out hb14) (hu.below hal))
  rw [HP2.out] at HV3
  have HU := hid (And.intro (hu.below hal) (And.intro (hf.below hal) (below_trans (below_trans HB0.out HBX.out) hb14)))
  have HZ4 := hid (blk HZB.out hb14)
  have HE4 := hid hE4
  have HS := hid hb2.size
  have HW4 := hid hW4
  obtain ⟨q0, q1, q2, q3, q4, q5, q6, q7, q8⟩ := cells9 hE4
  rw [hW4] at q0 q1 q2 q3 q4 q5 q6 q7 q8
  clear hal hE4 hb14 hu hf hb2 hW4 HV2 HCLT HV1
  go_wp2_with fail
  rw [← HW4.out]
  refine HV3.out.mono ?_
  rintro e w5 ⟨rfl, hb5⟩
  have hE5 := blk HE4.out hb5
  have hZ5 := blk HZ4.out hb5
  obtain ⟨y0, y1, y2, y3, y4, y5, y6, y7, y8⟩ := cells9 hZ5
  have yz := fun o => frozen_of_block (o := o) hZ5
  have hM5 : w.heap.size + 1 < w5.heap.size := lt_of_block hZ5
  cases p2
  case false =>
    rw [if_neg (by decide)] at HE
    have FIN := hid (show MadeEm w noTm false (.returned (.tuple #[.agg (Array.mk [.int .i64 0, .string ⟨#[]⟩, .int .i64 0, .int .i64 0, .slice none 0 0, .int .i64 0, .slice none 0 0, .int .i64 0, .slice none 0 0]), .bool false])) (put w5 (w.heap.size + 1) 0 [.int .i64 0, .string ⟨#[]⟩, .int .i64 0, .int .i64 0, .slice none 0 0, .int .i64 0, .slice none 0 0, .int .i64 0, .slice none 0 0]) from ⟨_, [], rfl, noTm_at _, Fresh.nil _ _, below_put (below_trans HU.out.2.2 hb5) (by omega)⟩)
    simp only [put, Nat.zero_add, Nat.reduceAdd] at FIN
    clear hb5 hE5 hZ5 q0 q1 q2 q3 q4 q5 q6 q7 q8
    go_wp2_with fail
    exact bodyPost_ret (v := .tuple #[.agg #[.int .i64 0, .string ⟨#[]⟩, .int .i64 0, .int .i64 0, .slice none 0 0, .int .i64 0, .slice none 0 0, .int .i64 0, .slice none 0 0], .bool false]) (by simp [results, Tryd.results17, go_sem, y0, y1, y2, y3, y4, y5, y6, y7, y8]) rfl (by rw [HE.out]; exact FIN.out)
  case true =>
    rw [if_pos rfl] at HE
    have ab : Above w1.heap.size w5 (put w5 (w.heap.size + 1) 0 [.int .i64 r0, .string r1, .int .i64 r2, .int .i64 r3, .slice r5 r4 r6, .int .i64 r7, .slice r9 r8 r10, .int .i64 r11, .slice r13 r12 r14]) := (Above.refl _ _).put hM
    have FIN := hid (show MadeEm w R true (.returned (.tuple #[.agg (Array.mk [.int .i64 r0, .string r1, .int .i64 r2, .int .i64 r3, .slice r5 r4 r6, .int .i64 r7, .slice r9 r8 r10, .int .i64 r11, .slice r13 r12 r14]), .bool true])) (put w5 (w.heap.size + 1) 0 [.int .i64 r0, .string r1, .int .i64 r2, .int .i64 r3, .slice r5 r4 r6, .int .i64 r7, .slice r9 r8 r10, .int .i64 r11, .slice r13 r12 r14]) from ⟨_, _, rfl, (HU.out.1.below hb5).above ab (HU.out.2.1.below hb5).ge, ((HU.out.2.1.below hb5).above ab (Nat.le_refl _)).mono (by omega), below_put (below_trans HU.out.2.2 hb5) (by omega)⟩)
    simp only [put, Nat.zero_add, Nat.reduceAdd] at FIN
    clear q0 q1 q2 q3 q4 q5 q6 q7 q8
    obtain ⟨q0, q1, q2, q3, q4, q5, q6, q7, q8⟩ := cells9 hE5
    have hlt : w.heap.size + 1 < w2.heap.size := by have := HS.out; omega
    have hlt2 : w2.heap.size < w5.heap.size := lt_of_block hE5
    clear hb5 hE5 hZ5 ab
    go_wp2_with fail
    exact bodyPost_ret (v := .tuple #[.agg #[.int .i64 r0, .string r1, .int .i64 r2, .int .i64 r3, .slice r5 r4 r6, .int .i64 r7, .slice r9 r8 r10, .int .i64 r11, .slice r13 r12 r14], .bool true]) (by simp [results, Tryd.results17, go_sem, y0, y1, y2, y3, y4, y5, y6, y7, y8]) rfl (by rw [HE.out]; exact FIN.out)
end Go.Proofs.YtdehhobpfaaboaaDoor

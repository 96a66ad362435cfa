/- The program's SimplifyCasts, RelabelCasts and DynamicCasts. -/
import Derived.Test.YtjpmlmdbldcbjaaDoorQLv6
import Derived.Test.YtjpmlmdbldcbjaaDoorQG21
namespace Go.Proofs.YtjpmlmdbldcbjaaDoor
open Go.RowKit

theorem zero_mb {w w1 : World} {M : Nat} (hb : Below w.heap.size w w1) (hB : w.heap.size ≤ M) : MadeMB w zTm false (.returned (.tuple #[.agg (Array.mk [.int .i64 0, .string ⟨#[]⟩, .int .i64 0, .int .i64 0, .slice none 0 0, .int .i64 0, .slice none 0 0, .int .i64 0, .slice none 0 0]), .bool false])) (put w1 M 0 [.int .i64 0, .string ⟨#[]⟩, .int .i64 0, .int .i64 0, .slice none 0 0, .int .i64 0, .slice none 0 0, .int .i64 0, .slice none 0 0]) :=
  ⟨_, [], rfl, (show zTm.At _ (.agg #[.int .i64 0, .string ByteArray.empty, .int .i64 0, .int .i64 0, .slice none 0 0, .int .i64 0, .slice none 0 0, .int .i64 0, .slice none 0 0]) [] from zTm_at _), Fresh.nil _ _, below_put hb hB⟩

set_option linter.unusedVariables false in
set_option linter.unusedSimpArgs false in
set_option maxRecDepth 100000 in
set_option maxHeartbeats 4000000 in
theorem implSimplify (t : Tm) (v : Value) (fp : List Nat) (w : World) (hsz : t.sz ≤ 1048576) (hF : Forms w) (hat : t.At w v fp) :
    Calls Tryd.prog 10 #[v] w (MadeMB w (simT t) (vldC t)) := by
  obtain ⟨e0, e1, e2, e3, e4, e5, e6, e7, e8, e9, e10, e11, e12, e13, e14, rfl⟩ := hat.agg
  have hb0 : Below w.heap.size w ((w.alloc (Obj.cells #[.int .i64 e0, .string e1, .int .i64 e2, .int .i64 e3, .slice e5 e4 e6, .int .i64 e7, .slice e9 e8 e10, .int .i64 e11, .slice e13 e12 e14] 34)).alloc (Obj.cells #[.int .i64 0, .string ⟨#[]⟩, .int .i64 0, .int .i64 0, .slice none 0 0, .int .i64 0, .slice none 0 0, .int .i64 0, .slice none 0 0] 34)) := ((Below.refl _ _).alloc (Nat.le_refl _) _).alloc (by simp) _
  have hs0 : ((w.alloc (Obj.cells #[.int .i64 e0, .string e1, .int .i64 e2, .int .i64 e3, .slice e5 e4 e6, .int .i64 e7, .slice e9 e8 e10, .int .i64 e11, .slice e13 e12 e14] 34)).alloc (Obj.cells #[.int .i64 0, .string ⟨#[]⟩, .int .i64 0, .int .i64 0, .slice none 0 0, .int .i64 0, .slice none 0 0, .int .i64 0, .slice none 0 0] 34)).heap.size = w.heap.size + 1 + 1 := by simp
  obtain ⟨hB0, hZ0⟩ := two_out (Below.refl ((w.alloc (Obj.cells #[.int .i64 e0, .string e1, .int .i64 e2, .int .i64 e3, .slice e5 e4 e6, .int .i64 e7, .slice e9 e8 e10, .int .i64 e11, .slice e13 e12 e14] 34)).alloc (Obj.cells #[.int .i64 0, .string ⟨#[]⟩, .int .i64 0, .int .i64 0, .slice none 0 0, .int .i64 0, .slice none 0 0, .int .i64 0, .slice none 0 0] 34)).heap.size ((w.alloc (Obj.cells #[.int .i64 e0, .string e1, .int .i64 e2, .int .i64 e3, .slice e5 e4 e6, .int .i64 e7, .slice e9 e8 e10, .int .i64 e11, .slice e13 e12 e14] 34)).alloc (Obj.cells #[.int .i64 0, .string ⟨#[]⟩, .int .i64 0, .int .i64 0, .slice none 0 0, .int .i64 0, .slice none 0 0, .int .i64 0, .slice none 0 0] 34)))
  have HV := hid (implCastValid t _ fp ((w.alloc (Obj.cells #[.int .i64 e0, .string e1, .int .i64 e2, .int .i64 e3, .slice e5 e4 e6, .int .i64 e7, .slice e9 e8 e10, .int .i64 e11, .slice e13 e12 e14] 34)).alloc (Obj.cells #[.int .i64 0, .string ⟨#[]⟩, .int .i64 0, .int .i64 0, .slice none 0 0, .int .i64 0, .slice none 0 0, .int .i64 0, .slice none 0 0] 34)) (hF.below hb0) (hat.below hb0))
  have HAT := hid (fun (W' : World) (h : Below w.heap.size w W') => hat.below h)
  have HFF := hid (fun (W' : World) (h : Below w.heap.size w W') => hF.below h)
  have HT := hid (show simT t = if vldC t then simN t else zTm from rfl)
  have HVV := hid (show vldC t = vldC t from rfl)
  generalize simT t = EE at *
  generalize hr : vldC t = r at HV HT ⊢
  clear HVV
  clear hat hF
  go_enter Tryd.func10, Tryd.ntmps10
  go_upto_region 1 with (fail)
  generalize ((w.alloc (Obj.cells #[.int .i64 e0, .string e1, .int .i64 e2, .int .i64 e3, .slice e5 e4 e6, .int .i64 e7, .slice e9 e8 e10, .int .i64 e11, .slice e13 e12 e14] 34)).alloc (Obj.cells #[.int .i64 0, .string ⟨#[]⟩, .int .i64 0, .int .i64 0, .slice none 0 0, .int .i64 0, .slice none 0 0, .int .i64 0, .slice none 0 0] 34)) = W1 at HV hB0 hZ0 hb0 hs0 ⊢
  obtain ⟨x0, x1, x2, x3, x4, x5, x6, x7, x8⟩ := cells9 hB0
  go_wp2_with fail
  refine HV.out.mono ?_
  rintro e w1 ⟨rfl, hb1⟩
  have hB := blk hB0 hb1
  have hZ := blk hZ0 hb1
  have hbw := below_trans hb0 hb1
  clear x0 x1 x2 x3 x4 x5 x6 x7 x8 hB0 hZ0 HV hb0
  have hs1 : w.heap.size + 1 + 1 ≤ w1.heap.size := by have := hb1.size; omega
  clear hb1
  obtain ⟨x0, x1, x2, x3, x4, x5, x6, x7, x8⟩ := cells9 hB
  obtain ⟨y0, y1, y2, y3, y4, y5, y6, y7, y8⟩ := cells9 hZ
  have yz := fun o => frozen_of_block (o := o) hZ
  have hM := lt_of_block hZ
  cases r with
  | false =>
    obtain rfl : EE = zTm := HT.out
    have FIN := hid (zero_mb (M := w.heap.size + 1) hbw (by omega))
    simp only [put, Nat.zero_add, Nat.reduceAdd] at FIN
    go_wp2_with fail
    exact bodyPost_ret (v := .tuple #[.agg (Array.mk [.int .i64 0, .string ⟨#[]⟩, .int .i64 0, .int .i64 0, .slice none 0 0, .int .i64 0, .slice none 0 0, .int .i64 0, .slice none 0 0]), .bool false]) (by simp [results, Tryd.results10, go_sem, y0, y1, y2, y3, y4, y5, y6, y7, y8]) rfl FIN.out
  | true =>
    have HVL := hid hr
    have hE : EE = simN t := HT.out
    subst hE
    have HGD := hid (And.intro (gd_vld HVL.out hsz) (okT_shpC 40 t (by have := HVL.out; unfold vldC at this; simp only [Bool.and_eq_true] at this; exact this.1)))
    have HBY := hid (byRules_any [28, 29] rsS (by decide) (by decide) (fun j h h' => by
      match j, h, h' with
      | 0, _, _ => exact dropEq_any
      | 1, _, _ => exact dropBack_any) gd_rsS t _ fp (w1.alloc (Obj.cells #[.func (.func 28) #[] #[], .func (.func 29) #[] #[]] 63)) w1.heap.size ((HAT.out _ hbw).below ((Below.refl _ _).alloc (Nat.le_refl _) _)) HGD.out.1 HGD.out.2 hsz (alloc_new w1 (Obj.cells #[.func (.func 28) #[] #[], .func (.func 29) #[] #[]] 63)))
    have hal : Below w1.heap.size w1 (w1.alloc (Obj.cells #[.func (.func 28) #[] #[], .func (.func 29) #[] #[]] 63)) := (Below.refl _ _).alloc (Nat.le_refl _) _
    have hz2 := blk hZ hal
    have hsa : (w1.alloc (Obj.cells #[.func (.func 28) #[] #[], .func (.func 29) #[] #[]] 63)).heap.size = w1.heap.size + 1 := by simp
    clear y0 y1 y2 y3 y4 y5 y6 y7 y8 yz hM
    go_wp2_with fail
    refine HBY.out.mono ?_
    rintro e w2 ⟨v2, f2, rfl, hu, hf, hb2⟩
    obtain ⟨r0, r1, r2, r3, r4, r5, r6, r7, r8, r9, r10, r11, r12, r13, r14, rfl⟩ := hu.agg
    have hZ2 := blk hz2 hb2
    obtain ⟨y0, y1, y2, y3, y4, y5, y6, y7, y8⟩ := cells9 hZ2
    have yz := fun o => frozen_of_block (o := o) hZ2
    have hM := lt_of_block hZ2
    have hb3 := below_trans (below_trans hbw hal) hb2
    change Tm.At w2 (simN t) _ f2 at hu
    generalize simN t = EE at *
    have ab : Above (w.heap.size + 1 + 1) w2 (put w2 (w.heap.size + 1) 0 [.int .i64 r0, .string r1, .int .i64 r2, .int .i64 r3, .slice r5 r4 r6, .int .i64 r7, .slice r9 r8 r10, .int .i64 r11, .slice r13 r12 r14]) := (Above.refl _ _).put (by omega)
    have FIN := hid (show MadeMB w EE true (.returned (.tuple #[.agg (Array.mk [.int .i64 r0, .string r1, .int .i64 r2, .int .i64 r3, .slice r5 r4 r6, .int .i64 r7, .slice r9 r8 r10, .int .i64 r11, .slice r13 r12 r14]), .bool true])) (put w2 (w.heap.size + 1) 0 [.int .i64 r0, .string r1, .int .i64 r2, .int .i64 r3, .slice r5 r4 r6, .int .i64 r7, .slice r9 r8 r10, .int .i64 r11, .slice r13 r12 r14]) from ⟨_, f2, rfl, hu.above ab (fun b hb => by have := hf.ge b hb; omega), (hf.above ab (by omega)).mono (by omega), below_put hb3 (by omega)⟩)
    simp only [put, Nat.zero_add, Nat.reduceAdd] at FIN
    clear x0 x1 x2 x3 x4 x5 x6 x7 x8 hu hf hb2 hb3 ab HBY hal hz2 hZ2
    go_wp2_with fail
    exact bodyPost_ret (v := .tuple #[.agg (Array.mk [.int .i64 r0, .string r1, .int .i64 r2, .int .i64 r3, .slice r5 r4 r6, .int .i64 r7, .slice r9 r8 r10, .int .i64 r11, .slice r13 r12 r14]), .bool true]) (by simp [results, Tryd.results10, go_sem, y0, y1, y2, y3, y4, y5, y6, y7, y8]) rfl FIN.out

set_option linter.unusedVariables false in
set_option linter.unusedSimpArgs false in
set_option maxRecDepth 100000 in
set_option maxHeartbeats 4000000 in
theorem implDynamic (t : Tm) (v : Value) (fp : List Nat) (w : World) (hsz : t.sz ≤ 1048576) (hF : Forms w) (hat : t.At w v fp) :
    Calls Tryd.prog 19 #[v] w (MadeMB w (dynT t) (dynB t)) := by
  obtain ⟨e0, e1, e2, e3, e4, e5, e6, e7, e8, e9, e10, e11, e12, e13, e14, rfl⟩ := hat.agg
  have hb0 : Below w.heap.size w ((w.alloc (Obj.cells #[.int .i64 e0, .string e1, .int .i64 e2, .int .i64 e3, .slice e5 e4 e6, .int .i64 e7, .slice e9 e8 e10, .int .i64 e11, .slice e13 e12 e14] 34)).alloc (Obj.cells #[.int .i64 0, .string ⟨#[]⟩, .int .i64 0, .int .i64 0, .slice none 0 0, .int .i64 0, .slice none 0 0, .int .i64 0, .slice none 0 0] 34)) := ((Below.refl _ _).alloc (Nat.le_refl _) _).alloc (by simp) _
  have hs0 : ((w.alloc (Obj.cells #[.int .i64 e0, .string e1, .int .i64 e2, .int .i64 e3, .slice e5 e4 e6, .int .i64 e7, .slice e9 e8 e10, .int .i64 e11, .slice e13 e12 e14] 34)).alloc (Obj.cells #[.int .i64 0, .string ⟨#[]⟩, .int .i64 0, .int .i64 0, .slice none 0 0, .int .i64 0, .slice none 0 0, .int .i64 0, .slice none 0 0] 34)).heap.size = w.heap.size + 1 + 1 := by simp
  obtain ⟨hB0, hZ0⟩ := two_out (Below.refl ((w.alloc (Obj.cells #[.int .i64 e0, .string e1, .int .i64 e2, .int .i64 e3, .slice e5 e4 e6, .int .i64 e7, .slice e9 e8 e10, .int .i64 e11, .slice e13 e12 e14] 34)).alloc (Obj.cells #[.int .i64 0, .string ⟨#[]⟩, .int .i64 0, .int .i64 0, .slice none 0 0, .int .i64 0, .slice none 0 0, .int .i64 0, .slice none 0 0] 34)).heap.size ((w.alloc (Obj.cells #[.int .i64 e0, .string e1, .int .i64 e2, .int .i64 e3, .slice e5 e4 e6, .int .i64 e7, .slice e9 e8 e10, .int .i64 e11, .slice e13 e12 e14] 34)).alloc (Obj.cells #[.int .i64 0, .string ⟨#[]⟩, .int .i64 0, .int .i64 0, .slice none 0 0, .int .i64 0, .slice none 0 0, .int .i64 0, .slice none 0 0] 34)))
  have HV := hid (implCastValid t _ fp ((w.alloc (Obj.cells #[.int .i64 e0, .string e1, .int .i64 e2, .int .i64 e3, .slice e5 e4 e6, .int .i64 e7, .slice e9 e8 e10, .int .i64 e11, .slice e13 e12 e14] 34)).alloc (Obj.cells #[.int .i64 0, .string ⟨#[]⟩, .int .i64 0, .int .i64 0, .slice none 0 0, .int .i64 0, .slice none 0 0, .int .i64 0, .slice none 0 0] 34)) (hF.below hb0) (hat.below hb0))
  have HAT := hid (fun (W' : World) (h : Below w.heap.size w W') => hat.below h)
  have HFF := hid (fun (W' : World) (h : Below w.heap.size w W') => hF.below h)
  have HT := hid (show dynB t = false → dynT t = zTm from fun h => by simp [dynT, h])
  have HT2 := hid (show dynB t = true → dynT t = dynN t from fun h => by simp [dynT, h])
  have HTB := hid (show dynB t = (vldC t && vldC (dynN t)) from rfl)
  generalize dynT t = EE at *
  generalize dynB t = ok at *
  generalize hr : vldC t = r at HV HTB ⊢
  clear hat hF
  go_enter Tryd.func19, Tryd.ntmps19
  go_upto_region 1 with (fail)
  generalize ((w.alloc (Obj.cells #[.int .i64 e0, .string e1, .int .i64 e2, .int .i64 e3, .slice e5 e4 e6, .int .i64 e7, .slice e9 e8 e10, .int .i64 e11, .slice e13 e12 e14] 34)).alloc (Obj.cells #[.int .i64 0, .string ⟨#[]⟩, .int .i64 0, .int .i64 0, .slice none 0 0, .int .i64 0, .slice none 0 0, .int .i64 0, .slice none 0 0] 34)) = W1 at HV hB0 hZ0 hb0 hs0 ⊢
  obtain ⟨x0, x1, x2, x3, x4, x5, x6, x7, x8⟩ := cells9 hB0
  go_wp2_with fail
  refine HV.out.mono ?_
  rintro e w1 ⟨rfl, hb1⟩
  have hB := blk hB0 hb1
  have hZ := blk hZ0 hb1
  have hbw := below_trans hb0 hb1
  clear x0 x1 x2 x3 x4 x5 x6 x7 x8 hB0 hZ0 HV hb0
  have hs1 : w.heap.size + 1 + 1 ≤ w1.heap.size := by have := hb1.size; omega
  clear hb1
  obtain ⟨x0, x1, x2, x3, x4, x5, x6, x7, x8⟩ := cells9 hB
  obtain ⟨y0, y1, y2, y3, y4, y5, y6, y7, y8⟩ := cells9 hZ
  have yz := fun o => frozen_of_block (o := o) hZ
  have hM := lt_of_block hZ
  cases r with
  | false =>
    obtain rfl : ok = false := HTB.out
    obtain rfl : EE = zTm := HT.out rfl
    have FIN := hid (zero_mb (M := w.heap.size + 1) hbw (by omega))
    simp only [put, Nat.zero_add, Nat.reduceAdd] at FIN
    go_wp2_with fail
    exact bodyPost_ret (v := .tuple #[.agg (Array.mk [.int .i64 0, .string ⟨#[]⟩, .int .i64 0, .int .i64 0, .slice none 0 0, .int .i64 0, .slice none 0 0, .int .i64 0, .slice none 0 0]), .bool false]) (by simp [results, Tryd.results19, go_sem, y0, y1, y2, y3, y4, y5, y6, y7, y8]) rfl FIN.out
  | true =>
    have HVL := hid hr
    have HGD := hid (And.intro (gd_vld HVL.out hsz) (okT_shpC 40 t (by have := HVL.out; unfold vldC at this; simp only [Bool.and_eq_true] at this; exact this.1)))
    have HBY := hid (byRules_any [42] rsD (by decide) (by decide) (fun j h h' => by
      match j, h, h' with
      | 0, _, _ => exact splitK_any) gd_rsD t _ fp (w1.alloc (Obj.cells #[.func (.func 42) #[] #[]] 63)) w1.heap.size ((HAT.out _ hbw).below ((Below.refl _ _).alloc (Nat.le_refl _) _)) HGD.out.1 HGD.out.2 hsz (alloc_new w1 (Obj.cells #[.func (.func 42) #[] #[]] 63)))
    have hal : Below w1.heap.size w1 (w1.alloc (Obj.cells #[.func (.func 42) #[] #[]] 63)) := (Below.refl _ _).alloc (Nat.le_refl _) _
    have hz2 := blk hZ hal
    have hsa : (w1.alloc (Obj.cells #[.func (.func 42) #[] #[]] 63)).heap.size = w1.heap.size + 1 := by simp
    clear y0 y1 y2 y3 y4 y5 y6 y7 y8 yz hM
    change Hid (ok = (true && vldC (dynN t))) at HTB
    rw [Bool.true_and] at HTB
    go_wp2_with fail
    refine HBY.out.mono ?_
    rintro e w2 ⟨v2, f2, rfl, hu, hf, hb2⟩
    change Tm.At w2 (dynN t) _ f2 at hu
    generalize dynN t = D at *
    obtain ⟨r0, r1, r2, r3, r4, r5, r6, r7, r8, r9, r10, r11, r12, r13, r14, rfl⟩ := hu.agg
    have hb3 := below_trans (below_trans hbw hal) hb2
    have hal2 : Below w2.heap.size w2 (w2.alloc (Obj.cells #[.int .i64 r0, .string r1, .int .i64 r2, .int .i64 r3, .slice r5 r4 r6, .int .i64 r7, .slice r9 r8 r10, .int .i64 r11, .slice r13 r12 r14] 34)) := (Below.refl _ _).alloc (Nat.le_refl _) _
    have hI := alloc_new w2 (Obj.cells #[.int .i64 r0, .string r1, .int .i64 r2, .int .i64 r3, .slice r5 r4 r6, .int .i64 r7, .slice r9 r8 r10, .int .i64 r11, .slice r13 r12 r14] 34)
    have hZ2 := blk (blk hz2 hb2) hal2
    have hb4 := below_trans hb3 hal2
    have HV2 := hid (implCastValid D _ f2 (w2.alloc (Obj.cells #[.int .i64 r0, .string r1, .int .i64 r2, .int .i64 r3, .slice r5 r4 r6, .int .i64 r7, .slice r9 r8 r10, .int .i64 r11, .slice r13 r12 r14] 34)) (HFF.out _ hb4) (hu.below hal2))
    replace hu := hu.below hal2
    replace hf := hf.below hal2
    rw [hsa] at hf
    clear x0 x1 x2 x3 x4 x5 x6 x7 x8 hb2 hb3 HBY hal hz2
    go_upto_region 4 with (fail)
    have hs2 : w2.heap.size < (w2.alloc (Obj.cells #[.int .i64 r0, .string r1, .int .i64 r2, .int .i64 r3, .slice r5 r4 r6, .int .i64 r7, .slice r9 r8 r10, .int .i64 r11, .slice r13 r12 r14] 34)).heap.size := by simp
    generalize hx : w2.alloc (Obj.cells #[.int .i64 r0, .string r1, .int .i64 r2, .int .i64 r3, .slice r5 r4 r6, .int .i64 r7, .slice r9 r8 r10, .int .i64 r11, .slice r13 r12 r14] 34) = W3 at hI hZ2 hb4 HV2 hu hf hs2 ⊢
    clear hal2 hx
    obtain ⟨x0, x1, x2, x3, x4, x5, x6, x7, x8⟩ := cells9 hI
    go_wp2_with fail
    refine HV2.out.mono ?_
    rintro e w4 ⟨rfl, hb5⟩
    replace hI := blk hI hb5
    replace hZ2 := blk hZ2 hb5
    replace hu := hu.below hb5
    replace hf := hf.below hb5
    have hb6 := below_trans hb4 hb5
    clear x0 x1 x2 x3 x4 x5 x6 x7 x8 HV2 hb4 hb5
    obtain ⟨x0, x1, x2, x3, x4, x5, x6, x7, x8⟩ := cells9 hI
    obtain ⟨y0, y1, y2, y3, y4, y5, y6, y7, y8⟩ := cells9 hZ2
    have yz := fun o => frozen_of_block (o := o) hZ2
    have hM := lt_of_block hZ2
    generalize vldC D = r2 at *
    cases r2 with
    | false =>
      obtain rfl : ok = false := HTB.out
      obtain rfl : EE = zTm := HT.out rfl
      clear hu hf
      have FIN := hid (zero_mb (M := w.heap.size + 1) hb6 (by omega))
      simp only [put, Nat.zero_add, Nat.reduceAdd] at FIN
      go_wp2_with fail
      exact bodyPost_ret (v := .tuple #[.agg (Array.mk [.int .i64 0, .string ⟨#[]⟩, .int .i64 0, .int .i64 0, .slice none 0 0, .int .i64 0, .slice none 0 0, .int .i64 0, .slice none 0 0]), .bool false]) (by simp [results, Tryd.results19, go_sem, y0, y1, y2, y3, y4, y5, y6, y7, y8]) rfl FIN.out
    | true =>
      obtain rfl : ok = true := HTB.out
      obtain rfl : EE = D := HT2.out rfl
      have ab : Above (w.heap.size + 1 + 1) w4 (put w4 (w.heap.size + 1) 0 [.int .i64 r0, .string r1, .int .i64 r2, .int .i64 r3, .slice r5 r4 r6, .int .i64 r7, .slice r9 r8 r10, .int .i64 r11, .slice r13 r12 r14]) := (Above.refl _ _).put (by omega)
      have FIN := hid (show MadeMB w EE true (.returned (.tuple #[.agg (Array.mk [.int .i64 r0, .string r1, .int .i64 r2, .int .i64 r3, .slice r5 r4 r6, .int .i64 r7, .slice r9 r8 r10, .int .i64 r11, .slice r13 r12 r14]), .bool true])) (put w4 (w.heap.size + 1) 0 [.int .i64 r0, .string r1, .int .i64 r2, .int .i64 r3, .slice r5 r4 r6, .int .i64 r7, .slice r9 r8 r10, .int .i64 r11, .slice r13 r12 r14]) from ⟨_, f2, rfl, hu.above ab (fun b hb => by have := hf.ge b hb; omega), (hf.above ab (by omega)).mono (by omega), below_put hb6 (by omega)⟩)
      simp only [put, Nat.zero_add, Nat.reduceAdd] at FIN
      clear hu hf ab hb6
      go_wp2_with fail
      exact bodyPost_ret (v := .tuple #[.agg (Array.mk [.int .i64 r0, .string r1, .int .i64 r2, .int .i64 r3, .slice r5 r4 r6, .int .i64 r7, .slice r9 r8 r10, .int .i64 r11, .slice r13 r12 r14]), .bool true]) (by simp [results, Tryd.results19, go_sem, y0, y1, y2, y3, y4, y5, y6, y7, y8]) rfl FIN.out

set_option linter.unusedVariables false in
set_option linter.unusedSimpArgs false in
set_option maxRecDepth 100000 in
set_option maxHeartbeats 4000000 in
theorem implRelabel (t : Tm) (v : Value) (fp : List Nat) (w : World) (hsz : t.sz ≤ 1048576) (hF : Forms w) (hat : t.At w v fp) :
    Calls Tryd.prog 17 #[v] w (MadeMB w (relT t) (relB t)) := by
  have hlt := hat.lt
  obtain ⟨e0, e1, e2, e3, e4, e5, e6, e7, e8, e9, e10, e11, e12, e13, e14, rfl⟩ := hat.agg
  have hb0 : Below w.heap.size w ((w.alloc (Obj.cells #[.int .i64 e0, .string e1, .int .i64 e2, .int .i64 e3, .slice e5 e4 e6, .int .i64 e7, .slice e9 e8 e10, .int .i64 e11, .slice e13 e12 e14] 34)).alloc (Obj.cells #[.int .i64 0, .string ⟨#[]⟩, .int .i64 0, .int .i64 0, .slice none 0 0, .int .i64 0, .slice none 0 0, .int .i64 0, .slice none 0 0] 34)) := ((Below.refl _ _).alloc (Nat.le_refl _) _).alloc (by simp) _
  have hs0 : ((w.alloc (Obj.cells #[.int .i64 e0, .string e1, .int .i64 e2, .int .i64 e3, .slice e5 e4 e6, .int .i64 e7, .slice e9 e8 e10, .int .i64 e11, .slice e13 e12 e14] 34)).alloc (Obj.cells #[.int .i64 0, .string ⟨#[]⟩, .int .i64 0, .int .i64 0, .slice none 0 0, .int .i64 0, .slice none 0 0, .int .i64 0, .slice none 0 0] 34)).heap.size = w.heap.size + 1 + 1 := by simp
  obtain ⟨hB0, hZ0⟩ := two_out (Below.refl ((w.alloc (Obj.cells #[.int .i64 e0, .string e1, .int .i64 e2, .int .i64 e3, .slice e5 e4 e6, .int .i64 e7, .slice e9 e8 e10, .int .i64 e11, .slice e13 e12 e14] 34)).alloc (Obj.cells #[.int .i64 0, .string ⟨#[]⟩, .int .i64 0, .int .i64 0, .slice none 0 0, .int .i64 0, .slice none 0 0, .int .i64 0, .slice none 0 0] 34)).heap.size ((w.alloc (Obj.cells #[.int .i64 e0, .string e1, .int .i64 e2, .int .i64 e3, .slice e5 e4 e6, .int .i64 e7, .slice e9 e8 e10, .int .i64 e11, .slice e13 e12 e14] 34)).alloc (Obj.cells #[.int .i64 0, .string ⟨#[]⟩, .int .i64 0, .int .i64 0, .slice none 0 0, .int .i64 0, .slice none 0 0, .int .i64 0, .slice none 0 0] 34)))
  have HV := hid (implCastValid t _ fp ((w.alloc (Obj.cells #[.int .i64 e0, .string e1, .int .i64 e2, .int .i64 e3, .slice e5 e4 e6, .int .i64 e7, .slice e9 e8 e10, .int .i64 e11, .slice e13 e12 e14] 34)).alloc (Obj.cells #[.int .i64 0, .string ⟨#[]⟩, .int .i64 0, .int .i64 0, .slice none 0 0, .int .i64 0, .slice none 0 0, .int .i64 0, .slice none 0 0] 34)) (hF.below hb0) (hat.below hb0))
  have HAT := hid (fun (W' : World) (h : Below w.heap.size w W') => hat.below h)
  have HFF := hid (fun (W' : World) (h : Below w.heap.size w W') => hF.below h)
  have HT := hid (show relB t = false → relT t = zTm from fun h => by simp [relT, h])
  have HT2 := hid (show relB t = true → relT t = lvT nxL chL12 0 t from fun h => by simp [relT, h])
  have HTB := hid (show relB t = (vldC t && decide (ccO t ≤ 99)) from by
    unfold relB ccO
    cases vldC t <;> simp)
  have HCO := hid (show ccO t ≤ 4194304 from by
    have := cc_len t
    unfold ccO
    split <;> omega)
  have HLT := hid hlt
  generalize relT t = EE at *
  generalize relB t = ok at *
  generalize hr : vldC t = r at HV HTB ⊢
  clear hlt
  clear hat hF
  go_enter Tryd.func17, Tryd.ntmps17
  go_upto_region 1 with (fail)
  generalize ((w.alloc (Obj.cells #[.int .i64 e0, .string e1, .int .i64 e2, .int .i64 e3, .slice e5 e4 e6, .int .i64 e7, .slice e9 e8 e10, .int .i64 e11, .slice e13 e12 e14] 34)).alloc (Obj.cells #[.int .i64 0, .string ⟨#[]⟩, .int .i64 0, .int .i64 0, .slice none 0 0, .int .i64 0, .slice none 0 0, .int .i64 0, .slice none 0 0] 34)) = W1 at HV hB0 hZ0 hb0 hs0 ⊢
  obtain ⟨x0, x1, x2, x3, x4, x5, x6, x7, x8⟩ := cells9 hB0
  go_wp2_with fail
  refine HV.out.mono ?_
  rintro e w1 ⟨rfl, hb1⟩
  have hB := blk hB0 hb1
  have hZ := blk hZ0 hb1
  have hbw := below_trans hb0 hb1
  clear x0 x1 x2 x3 x4 x5 x6 x7 x8 hB0 hZ0 HV hb0
  have hs1 : w.heap.size + 1 + 1 ≤ w1.heap.size := by have := hb1.size; omega
  clear hb1
  obtain ⟨x0, x1, x2, x3, x4, x5, x6, x7, x8⟩ := cells9 hB
  obtain ⟨y0, y1, y2, y3, y4, y5, y6, y7, y8⟩ := cells9 hZ
  have yz := fun o => frozen_of_block (o := o) hZ
  have hM := lt_of_block hZ
  cases r with
  | false =>
    obtain rfl : ok = false := HTB.out
    obtain rfl : EE = zTm := HT.out rfl
    have FIN := hid (zero_mb (M := w.heap.size + 1) hbw (by omega))
    simp only [put, Nat.zero_add, Nat.reduceAdd] at FIN
    go_wp2_with fail
    exact bodyPost_ret (v := .tuple #[.agg (Array.mk [.int .i64 0, .string ⟨#[]⟩, .int .i64 0, .int .i64 0, .slice none 0 0, .int .i64 0, .slice none 0 0, .int .i64 0, .slice none 0 0]), .bool false]) (by simp [results, Tryd.results17, go_sem, y0, y1, y2, y3, y4, y5, y6, y7, y8]) rfl FIN.out
  | true =>
    have HVL := hid hr
    have HCC := hid (implCountCasts t _ fp w1 hsz (HFF.out _ hbw) (HAT.out _ hbw))
    change Hid (ok = (true && decide (ccO t ≤ 99))) at HTB
    rw [Bool.true_and] at HTB
    clear y0 y1 y2 y3 y4 y5 y6 y7 y8 yz hM
    generalize ccO t = C at *
    go_wp2_with fail
    refine HCC.out.mono ?_
    rintro e w2 ⟨rfl, hb2⟩
    replace hB := blk hB hb2
    replace hZ := blk hZ hb2
    have hb3 := below_trans hbw hb2
    have hs2 : w.heap.size + 1 + 1 ≤ w2.heap.size := by have := hb2.size; omega
    clear x0 x1 x2 x3 x4 x5 x6 x7 x8 HCC hb2
    obtain ⟨x0, x1, x2, x3, x4, x5, x6, x7, x8⟩ := cells9 hB
    obtain ⟨y0, y1, y2, y3, y4, y5, y6, y7, y8⟩ := cells9 hZ
    have yz := fun o => frozen_of_block (o := o) hZ
    have hM := lt_of_block hZ
    by_cases hc : C ≤ 99
    case neg =>
      obtain rfl : ok = false := HTB.out.trans (by simpa using hc)
      obtain rfl : EE = zTm := HT.out rfl
      have hc' : (99 : Int) < (C : Int) := by omega
      have hc2 : decide ((99 : Int) < (C : Int)) = true := by simpa using hc'
      have FIN := hid (zero_mb (M := w.heap.size + 1) hb3 (by omega))
      simp only [put, Nat.zero_add, Nat.reduceAdd] at FIN
      go_wp2_with fail
      exact bodyPost_ret (v := .tuple #[.agg (Array.mk [.int .i64 0, .string ⟨#[]⟩, .int .i64 0, .int .i64 0, .slice none 0 0, .int .i64 0, .slice none 0 0, .int .i64 0, .slice none 0 0]), .bool false]) (by simp [results, Tryd.results17, go_sem, y0, y1, y2, y3, y4, y5, y6, y7, y8]) rfl FIN.out
    obtain rfl : ok = true := HTB.out.trans (by simpa using hc)
    obtain rfl := HT2.out rfl
    have hc' : ¬ (99 : Int) < (C : Int) := by omega
    have hc2 : decide ((99 : Int) < (C : Int)) = false := by simpa using hc'
    have hal : Below w2.heap.size w2 (w2.alloc (Obj.cells #[.int .i64 0] 3)) := (Below.refl _ _).alloc (Nat.le_refl _) _
    have hsa : (w2.alloc (Obj.cells #[.int .i64 0] 3)).heap.size = w2.heap.size + 1 := by simp
    have HGD := hid (And.intro (gd_vld HVL.out hsz) (okT_shpC 40 t (by have := HVL.out; unfold vldC at this; simp only [Bool.and_eq_true] at this; exact this.1)))
    have HL := hid (leaves_any 40 #[.pointer (some ⟨w2.heap.size, 0, none⟩)] (some w2.heap.size) (w2.heap.size + 1) (CnSt w2.heap.size) nxL chL12 callOk_lab (fun u h => by cases h; omega) (CnSt.below (by omega)) (fun n k => by unfold nxL; split <;> omega) (fun _ _ => gd_L) (label_lf w2.heap.size (w2.heap.size + 1) (by omega)) t 0 _ fp (w2.alloc (Obj.cells #[.int .i64 0] 3)) ((HAT.out _ hb3).below hal) HGD.out.1 HGD.out.2 (by omega) hsz (alloc_new w2 (Obj.cells #[.int .i64 0] 3)) (by omega) (fun b hb h => by have := HLT.out b hb; cases h; omega))
    generalize lvT nxL chL12 0 t = EE at *
    generalize lvN nxL 0 t = nn at *
    have hZa := blk hZ hal
    have hb4 := below_trans hb3 hal
    go_upto_region 4 with (fail)
    generalize hx : w2.alloc (Obj.cells #[.int .i64 0] 3) = W3 at HL hZa hb4 hsa hal ⊢
    have hBa := blk hB hal
    clear x0 x1 x2 x3 x4 x5 x6 x7 x8 y0 y1 y2 y3 y4 y5 y6 y7 y8 yz hM hx
    obtain ⟨x0, x1, x2, x3, x4, x5, x6, x7, x8⟩ := cells9 hBa
    go_wp2_with fail
    refine HL.out.mono ?_
    rintro e w5 ⟨v5, f2, rfl, hu, hf, hbx, -⟩
    obtain ⟨r0, r1, r2, r3, r4, r5, r6, r7, r8, r9, r10, r11, r12, r13, r14, rfl⟩ := hu.agg
    have hb5 : Below w2.heap.size W3 w5 := ⟨hbx.os, hbx.tape, hbx.output, hbx.size, fun k hk => hbx.block k (by omega) (fun e => by cases e; omega)⟩
    have hZ5 := (hb5.block _ (by omega)).trans hZa
    obtain ⟨y0, y1, y2, y3, y4, y5, y6, y7, y8⟩ := cells9 hZ5
    have yz := fun o => frozen_of_block (o := o) hZ5
    have hM := lt_of_block hZ5
    have hb6 : Below w.heap.size w w5 := hb4.trans (hb5.mono (by omega))
    rw [hsa] at hf
    have ab : Above (w.heap.size + 1 + 1) w5 (put w5 (w.heap.size + 1) 0 [.int .i64 r0, .string r1, .int .i64 r2, .int .i64 r3, .slice r5 r4 r6, .int .i64 r7, .slice r9 r8 r10, .int .i64 r11, .slice r13 r12 r14]) := (Above.refl _ _).put (by omega)
    have FIN := hid (show MadeMB w EE true (.returned (.tuple #[.agg (Array.mk [.int .i64 r0, .string r1, .int .i64 r2, .int .i64 r3, .slice r5 r4 r6, .int .i64 r7, .slice r9 r8 r10, .int .i64 r11, .slice r13 r12 r14]), .bool true])) (put w5 (w.heap.size + 1) 0 [.int .i64 r0, .string r1, .int .i64 r2, .int .i64 r3, .slice r5 r4 r6, .int .i64 r7, .slice r9 r8 r10, .int .i64 r11, .slice r13 r12 r14]) from ⟨_, f2, rfl, hu.above ab (fun b hb => by have := hf.ge b hb; omega), (hf.above ab (by omega)).mono (by omega), below_put hb6 (by omega)⟩)
    simp only [put, Nat.zero_add, Nat.reduceAdd] at FIN
    clear x0 x1 x2 x3 x4 x5 x6 x7 x8 hu hf hbx hb5 hb6 ab HL hZ5 hal hZa hb4 hsa hBa
    go_wp2_with fail
    exact bodyPost_ret (v := .tuple #[.agg (Array.mk [.int .i64 r0, .string r1, .int .i64 r2, .int .i64 r3, .slice r5 r4 r6, .int .i64 r7, .slice r9 r8 r10, .int .i64 r11, .slice r13 r12 r14]), .bool true]) (by simp [results, Tryd.results17, go_sem, y0, y1, y2, y3, y4, y5, y6, y7, y8]) rfl FIN.out
end Go.Proofs.YtjpmlmdbldcbjaaDoor

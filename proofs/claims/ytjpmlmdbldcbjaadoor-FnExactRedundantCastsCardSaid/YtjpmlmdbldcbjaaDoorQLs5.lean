/- The specification's SimplifyCasts, RelabelCasts and DynamicCasts. -/
import Derived.Test.YtjpmlmdbldcbjaaDoorQLs1
import Derived.Test.YtjpmlmdbldcbjaaDoorQLs2
import Derived.Test.YtjpmlmdbldcbjaaDoorQLs3
import Derived.Test.YtjpmlmdbldcbjaaDoorQG25
namespace Go.Proofs.YtjpmlmdbldcbjaaDoor
open Go.RowKit

def MadeXB (w : World) (t : Tm) (ok : Bool) (e : Ending) (w' : World) : Prop := ∃ v fp, e = .returned (.tuple #[v, .bool ok]) ∧ t.At w' v fp ∧ (∀ x ∈ fp, w.heap.size ≤ x) ∧ Below w.heap.size w w'
theorem zero_xb {w w1 : World} {M : Nat} (hb : Below w.heap.size w w1) (hB : w.heap.size ≤ M) : MadeXB w zTm false (.returned (.tuple #[.agg (Array.mk [.int .i64 0, .string ⟨#[]⟩, .int .i64 0, .int .i64 0, .slice none 0 0, .int .i64 0, .slice none 0 0, .int .i64 0, .slice none 0 0]), .bool false])) (put w1 M 0 [.int .i64 0, .string ⟨#[]⟩, .int .i64 0, .int .i64 0, .slice none 0 0, .int .i64 0, .slice none 0 0, .int .i64 0, .slice none 0 0]) :=
  ⟨_, [], rfl, (show zTm.At _ (.agg #[.int .i64 0, .string ByteArray.empty, .int .i64 0, .int .i64 0, .slice none 0 0, .int .i64 0, .slice none 0 0, .int .i64 0, .slice none 0 0]) [] from zTm_at _), fun _ h => (by cases h), below_put hb hB⟩

set_option linter.unusedVariables false in
set_option linter.unusedSimpArgs false in
set_option maxRecDepth 100000 in
set_option maxHeartbeats 4000000 in
theorem specSimplify (t : Tm) (v : Value) (fp : List Nat) (w : World) (hsz : t.sz ≤ 1048576) (hat : t.At w v fp) : Calls Tryd.prog 8 #[v] w (MadeXB w (simT t) (vldC t)) := by
  obtain ⟨e0, e1, e2, e3, e4, e5, e6, e7, e8, e9, e10, e11, e12, e13, e14, rfl⟩ := hat.agg
  have hb0 : Below w.heap.size w ((w.alloc (Obj.cells #[.int .i64 e0, .string e1, .int .i64 e2, .int .i64 e3, .slice e5 e4 e6, .int .i64 e7, .slice e9 e8 e10, .int .i64 e11, .slice e13 e12 e14] 34)).alloc (Obj.cells #[.int .i64 0, .string ⟨#[]⟩, .int .i64 0, .int .i64 0, .slice none 0 0, .int .i64 0, .slice none 0 0, .int .i64 0, .slice none 0 0] 34)) := ((Below.refl _ _).alloc (Nat.le_refl _) _).alloc (by simp) _
  have hs0 : ((w.alloc (Obj.cells #[.int .i64 e0, .string e1, .int .i64 e2, .int .i64 e3, .slice e5 e4 e6, .int .i64 e7, .slice e9 e8 e10, .int .i64 e11, .slice e13 e12 e14] 34)).alloc (Obj.cells #[.int .i64 0, .string ⟨#[]⟩, .int .i64 0, .int .i64 0, .slice none 0 0, .int .i64 0, .slice none 0 0, .int .i64 0, .slice none 0 0] 34)).heap.size = w.heap.size + 1 + 1 := by simp
  obtain ⟨hB0, hZ0⟩ := two_out (Below.refl ((w.alloc (Obj.cells #[.int .i64 e0, .string e1, .int .i64 e2, .int .i64 e3, .slice e5 e4 e6, .int .i64 e7, .slice e9 e8 e10, .int .i64 e11, .slice e13 e12 e14] 34)).alloc (Obj.cells #[.int .i64 0, .string ⟨#[]⟩, .int .i64 0, .int .i64 0, .slice none 0 0, .int .i64 0, .slice none 0 0, .int .i64 0, .slice none 0 0] 34)).heap.size ((w.alloc (Obj.cells #[.int .i64 e0, .string e1, .int .i64 e2, .int .i64 e3, .slice e5 e4 e6, .int .i64 e7, .slice e9 e8 e10, .int .i64 e11, .slice e13 e12 e14] 34)).alloc (Obj.cells #[.int .i64 0, .string ⟨#[]⟩, .int .i64 0, .int .i64 0, .slice none 0 0, .int .i64 0, .slice none 0 0, .int .i64 0, .slice none 0 0] 34)))
  have HV := hid (specCastValid t _ fp ((w.alloc (Obj.cells #[.int .i64 e0, .string e1, .int .i64 e2, .int .i64 e3, .slice e5 e4 e6, .int .i64 e7, .slice e9 e8 e10, .int .i64 e11, .slice e13 e12 e14] 34)).alloc (Obj.cells #[.int .i64 0, .string ⟨#[]⟩, .int .i64 0, .int .i64 0, .slice none 0 0, .int .i64 0, .slice none 0 0, .int .i64 0, .slice none 0 0] 34)) hsz (hat.below hb0))
  have HAT := hid (fun (W' : World) (h : Below w.heap.size w W') => hat.below h)
  have HT := hid (show simT t = if vldC t then simN t else zTm from rfl)
  generalize simT t = EE at *
  generalize hr : vldC t = r at HV HT ⊢
  clear hat
  go_enter Tryd.func8, Tryd.ntmps8
  go_upto_region 1 with (fail)
  generalize ((w.alloc (Obj.cells #[.int .i64 e0, .string e1, .int .i64 e2, .int .i64 e3, .slice e5 e4 e6, .int .i64 e7, .slice e9 e8 e10, .int .i64 e11, .slice e13 e12 e14] 34)).alloc (Obj.cells #[.int .i64 0, .string ⟨#[]⟩, .int .i64 0, .int .i64 0, .slice none 0 0, .int .i64 0, .slice none 0 0, .int .i64 0, .slice none 0 0] 34)) = W1 at HV hB0 hZ0 hb0 hs0 ⊢
  obtain ⟨x0, x1, x2, x3, x4, x5, x6, x7, x8⟩ := cells9 hB0
  go_wp2_with fail
  refine HV.out.mono ?_
  rintro e w1 ⟨rfl, hb1⟩
  have hB := blk hB0 hb1
  have hZ := blk hZ0 hb1
  have hbw := below_trans hb0 hb1
  clear x0 x1 x2 x3 x4 x5 x6 x7 x8 hB0 hZ0 HV hb0
  have hs1 : w.heap.size + 1 + 1 ≤ w1.heap.size := by have := hb1.size; omega
  clear hb1
  obtain ⟨x0, x1, x2, x3, x4, x5, x6, x7, x8⟩ := cells9 hB
  obtain ⟨y0, y1, y2, y3, y4, y5, y6, y7, y8⟩ := cells9 hZ
  have yz := fun o => frozen_of_block (o := o) hZ
  have hM := lt_of_block hZ
  cases r with
  | false =>
    obtain rfl : EE = zTm := HT.out
    have FIN := hid (zero_xb (M := w.heap.size + 1) hbw (by omega))
    simp only [put, Nat.zero_add, Nat.reduceAdd] at FIN
    go_wp2_with fail
    exact bodyPost_ret (v := .tuple #[.agg (Array.mk [.int .i64 0, .string ⟨#[]⟩, .int .i64 0, .int .i64 0, .slice none 0 0, .int .i64 0, .slice none 0 0, .int .i64 0, .slice none 0 0]), .bool false]) (by simp [results, Tryd.results8, go_sem, y0, y1, y2, y3, y4, y5, y6, y7, y8]) rfl FIN.out
  | true =>
    obtain rfl : EE = simN t := HT.out
    have HC := hid (sim_any t _ fp w1 (HAT.out _ hbw) (gd_vld hr hsz) hsz)
    change Hid (Calls _ _ _ _ (MadeX w1 (simN t))) at HC
    generalize simN t = EE at *
    clear y0 y1 y2 y3 y4 y5 y6 y7 y8 yz hM HT
    go_wp2_with fail
    refine HC.out.mono ?_
    rintro e w2 ⟨v2, f2, rfl, hu, hin, hb2⟩
    obtain ⟨r0, r1, r2, r3, r4, r5, r6, r7, r8, r9, r10, r11, r12, r13, r14, rfl⟩ := hu.agg
    have hZ2 := blk hZ hb2
    obtain ⟨y0, y1, y2, y3, y4, y5, y6, y7, y8⟩ := cells9 hZ2
    have yz := fun o => frozen_of_block (o := o) hZ2
    have hM := lt_of_block hZ2
    have hb3 := below_trans hbw hb2
    have FIN := hid (show MadeXB w EE true (.returned (.tuple #[.agg (Array.mk [.int .i64 r0, .string r1, .int .i64 r2, .int .i64 r3, .slice r5 r4 r6, .int .i64 r7, .slice r9 r8 r10, .int .i64 r11, .slice r13 r12 r14]), .bool true])) (put w2 (w.heap.size + 1) 0 [.int .i64 r0, .string r1, .int .i64 r2, .int .i64 r3, .slice r5 r4 r6, .int .i64 r7, .slice r9 r8 r10, .int .i64 r11, .slice r13 r12 r14]) from ⟨_, f2, rfl, hu.congr fun x hx o => World.cell?_of_block (w := w2) (a := ⟨x, o, none⟩) (heap_put_ne (show x ≠ w.heap.size + 1 by have := hin x hx; omega)), fun x hx => by have := hin x hx; omega, below_put hb3 (by omega)⟩)
    simp only [put, Nat.zero_add, Nat.reduceAdd] at FIN
    clear x0 x1 x2 x3 x4 x5 x6 x7 x8 hu hin hb2 hb3 hZ2 HC
    go_wp2_with fail
    exact bodyPost_ret (v := .tuple #[.agg (Array.mk [.int .i64 r0, .string r1, .int .i64 r2, .int .i64 r3, .slice r5 r4 r6, .int .i64 r7, .slice r9 r8 r10, .int .i64 r11, .slice r13 r12 r14]), .bool true]) (by simp [results, Tryd.results8, go_sem, y0, y1, y2, y3, y4, y5, y6, y7, y8]) rfl FIN.out

set_option linter.unusedVariables false in
set_option linter.unusedSimpArgs false in
set_option maxRecDepth 100000 in
set_option maxHeartbeats 4000000 in
theorem specDynamic (t : Tm) (v : Value) (fp : List Nat) (w : World) (hsz : t.sz ≤ 1048576) (hat : t.At w v fp) : Calls Tryd.prog 18 #[v] w (MadeXB w (dynT t) (dynB t)) := by
  obtain ⟨e0, e1, e2, e3, e4, e5, e6, e7, e8, e9, e10, e11, e12, e13, e14, rfl⟩ := hat.agg
  have hb0 : Below w.heap.size w ((w.alloc (Obj.cells #[.int .i64 e0, .string e1, .int .i64 e2, .int .i64 e3, .slice e5 e4 e6, .int .i64 e7, .slice e9 e8 e10, .int .i64 e11, .slice e13 e12 e14] 34)).alloc (Obj.cells #[.int .i64 0, .string ⟨#[]⟩, .int .i64 0, .int .i64 0, .slice none 0 0, .int .i64 0, .slice none 0 0, .int .i64 0, .slice none 0 0] 34)) := ((Below.refl _ _).alloc (Nat.le_refl _) _).alloc (by simp) _
  have hs0 : ((w.alloc (Obj.cells #[.int .i64 e0, .string e1, .int .i64 e2, .int .i64 e3, .slice e5 e4 e6, .int .i64 e7, .slice e9 e8 e10, .int .i64 e11, .slice e13 e12 e14] 34)).alloc (Obj.cells #[.int .i64 0, .string ⟨#[]⟩, .int .i64 0, .int .i64 0, .slice none 0 0, .int .i64 0, .slice none 0 0, .int .i64 0, .slice none 0 0] 34)).heap.size = w.heap.size + 1 + 1 := by simp
  obtain ⟨hB0, hZ0⟩ := two_out (Below.refl ((w.alloc (Obj.cells #[.int .i64 e0, .string e1, .int .i64 e2, .int .i64 e3, .slice e5 e4 e6, .int .i64 e7, .slice e9 e8 e10, .int .i64 e11, .slice e13 e12 e14] 34)).alloc (Obj.cells #[.int .i64 0, .string ⟨#[]⟩, .int .i64 0, .int .i64 0, .slice none 0 0, .int .i64 0, .slice none 0 0, .int .i64 0, .slice none 0 0] 34)).heap.size ((w.alloc (Obj.cells #[.int .i64 e0, .string e1, .int .i64 e2, .int .i64 e3, .slice e5 e4 e6, .int .i64 e7, .slice e9 e8 e10, .int .i64 e11, .slice e13 e12 e14] 34)).alloc (Obj.cells #[.int .i64 0, .string ⟨#[]⟩, .int .i64 0, .int .i64 0, .slice none 0 0, .int .i64 0, .slice none 0 0, .int .i64 0, .slice none 0 0] 34)))
  have HV := hid (specCastValid t _ fp ((w.alloc (Obj.cells #[.int .i64 e0, .string e1, .int .i64 e2, .int .i64 e3, .slice e5 e4 e6, .int .i64 e7, .slice e9 e8 e10, .int .i64 e11, .slice e13 e12 e14] 34)).alloc (Obj.cells #[.int .i64 0, .string ⟨#[]⟩, .int .i64 0, .int .i64 0, .slice none 0 0, .int .i64 0, .slice none 0 0, .int .i64 0, .slice none 0 0] 34)) hsz (hat.below hb0))
  have HAT := hid (fun (W' : World) (h : Below w.heap.size w W') => hat.below h)
  have HT := hid (show dynB t = false → dynT t = zTm from fun h => by simp [dynT, h])
  have HT2 := hid (show dynB t = true → dynT t = dynN t from fun h => by simp [dynT, h])
  have HTB := hid (show dynB t = (vldC t && vldC (dynN t)) from rfl)
  have HDZ := hid (fun (h : vldC t = true) => szC_dyn h)
  generalize dynT t = EE at *
  generalize dynB t = ok at *
  generalize hr : vldC t = r at HV HTB HDZ ⊢
  clear hat
  go_enter Tryd.func18, Tryd.ntmps18
  go_upto_region 1 with (fail)
  generalize ((w.alloc (Obj.cells #[.int .i64 e0, .string e1, .int .i64 e2, .int .i64 e3, .slice e5 e4 e6, .int .i64 e7, .slice e9 e8 e10, .int .i64 e11, .slice e13 e12 e14] 34)).alloc (Obj.cells #[.int .i64 0, .string ⟨#[]⟩, .int .i64 0, .int .i64 0, .slice none 0 0, .int .i64 0, .slice none 0 0, .int .i64 0, .slice none 0 0] 34)) = W1 at HV hB0 hZ0 hb0 hs0 ⊢
  obtain ⟨x0, x1, x2, x3, x4, x5, x6, x7, x8⟩ := cells9 hB0
  go_wp2_with fail
  refine HV.out.mono ?_
  rintro e w1 ⟨rfl, hb1⟩
  have hB := blk hB0 hb1
  have hZ := blk hZ0 hb1
  have hbw := below_trans hb0 hb1
  clear x0 x1 x2 x3 x4 x5 x6 x7 x8 hB0 hZ0 HV hb0
  have hs1 : w.heap.size + 1 + 1 ≤ w1.heap.size := by have := hb1.size; omega
  clear hb1
  obtain ⟨x0, x1, x2, x3, x4, x5, x6, x7, x8⟩ := cells9 hB
  obtain ⟨y0, y1, y2, y3, y4, y5, y6, y7, y8⟩ := cells9 hZ
  have yz := fun o => frozen_of_block (o := o) hZ
  have hM := lt_of_block hZ
  cases r with
  | false =>
    obtain rfl : ok = false := HTB.out
    obtain rfl : EE = zTm := HT.out rfl
    have FIN := hid (zero_xb (M := w.heap.size + 1) hbw (by omega))
    simp only [put, Nat.zero_add, Nat.reduceAdd] at FIN
    go_wp2_with fail
    exact bodyPost_ret (v := .tuple #[.agg (Array.mk [.int .i64 0, .string ⟨#[]⟩, .int .i64 0, .int .i64 0, .slice none 0 0, .int .i64 0, .slice none 0 0, .int .i64 0, .slice none 0 0]), .bool false]) (by simp [results, Tryd.results18, go_sem, y0, y1, y2, y3, y4, y5, y6, y7, y8]) rfl FIN.out
  | true =>
    have HC := hid (dyn_any t _ fp w1 (HAT.out _ hbw) (gd_vld hr hsz) hsz)
    change Hid (Calls _ _ _ _ (MadeX w1 (dynN t))) at HC
    change Hid (ok = (true && vldC (dynN t))) at HTB
    rw [Bool.true_and] at HTB
    replace HDZ := hid (HDZ.out rfl)
    generalize dynN t = D at *
    clear y0 y1 y2 y3 y4 y5 y6 y7 y8 yz hM
    go_wp2_with fail
    refine HC.out.mono ?_
    rintro e w2 ⟨v2, f2, rfl, hu, hin, hb2⟩
    obtain ⟨r0, r1, r2, r3, r4, r5, r6, r7, r8, r9, r10, r11, r12, r13, r14, rfl⟩ := hu.agg
    have hb3 := below_trans hbw hb2
    have hal2 : Below w2.heap.size w2 (w2.alloc (Obj.cells #[.int .i64 r0, .string r1, .int .i64 r2, .int .i64 r3, .slice r5 r4 r6, .int .i64 r7, .slice r9 r8 r10, .int .i64 r11, .slice r13 r12 r14] 34)) := (Below.refl _ _).alloc (Nat.le_refl _) _
    have hI := alloc_new w2 (Obj.cells #[.int .i64 r0, .string r1, .int .i64 r2, .int .i64 r3, .slice r5 r4 r6, .int .i64 r7, .slice r9 r8 r10, .int .i64 r11, .slice r13 r12 r14] 34)
    have hZ2 := blk (blk hZ hb2) hal2
    have hb4 := below_trans hb3 hal2
    have HV2 := hid (specCastValid D _ f2 (w2.alloc (Obj.cells #[.int .i64 r0, .string r1, .int .i64 r2, .int .i64 r3, .slice r5 r4 r6, .int .i64 r7, .slice r9 r8 r10, .int .i64 r11, .slice r13 r12 r14] 34)) HDZ.out (hu.below hal2))
    replace hu := hu.below hal2
    clear x0 x1 x2 x3 x4 x5 x6 x7 x8 hb2 hb3 HC
    go_upto_region 4 with (fail)
    have hs2 : w2.heap.size < (w2.alloc (Obj.cells #[.int .i64 r0, .string r1, .int .i64 r2, .int .i64 r3, .slice r5 r4 r6, .int .i64 r7, .slice r9 r8 r10, .int .i64 r11, .slice r13 r12 r14] 34)).heap.size := by simp
    generalize hx : w2.alloc (Obj.cells #[.int .i64 r0, .string r1, .int .i64 r2, .int .i64 r3, .slice r5 r4 r6, .int .i64 r7, .slice r9 r8 r10, .int .i64 r11, .slice r13 r12 r14] 34) = W3 at hI hZ2 hb4 HV2 hu hs2 ⊢
    clear hal2 hx
    obtain ⟨x0, x1, x2, x3, x4, x5, x6, x7, x8⟩ := cells9 hI
    go_wp2_with fail
    refine HV2.out.mono ?_
    rintro e w4 ⟨rfl, hb5⟩
    replace hI := blk hI hb5
    replace hZ2 := blk hZ2 hb5
    replace hu := hu.below hb5
    have hb6 := below_trans hb4 hb5
    clear x0 x1 x2 x3 x4 x5 x6 x7 x8 HV2 hb4 hb5
    obtain ⟨x0, x1, x2, x3, x4, x5, x6, x7, x8⟩ := cells9 hI
    obtain ⟨y0, y1, y2, y3, y4, y5, y6, y7, y8⟩ := cells9 hZ2
    have yz := fun o => frozen_of_block (o := o) hZ2
    have hM := lt_of_block hZ2
    generalize vldC D = r2 at *
    cases r2 with
    | false =>
      obtain rfl : ok = false := HTB.out
      obtain rfl : EE = zTm := HT.out rfl
      clear hu hin
      have FIN := hid (zero_xb (M := w.heap.size + 1) hb6 (by omega))
      simp only [put, Nat.zero_add, Nat.reduceAdd] at FIN
      go_wp2_with fail
      exact bodyPost_ret (v := .tuple #[.agg (Array.mk [.int .i64 0, .string ⟨#[]⟩, .int .i64 0, .int .i64 0, .slice none 0 0, .int .i64 0, .slice none 0 0, .int .i64 0, .slice none 0 0]), .bool false]) (by simp [results, Tryd.results18, go_sem, y0, y1, y2, y3, y4, y5, y6, y7, y8]) rfl FIN.out
    | true =>
      obtain rfl : ok = true := HTB.out
      obtain rfl : EE = D := HT2.out rfl
      have FIN := hid (show MadeXB w EE true (.returned (.tuple #[.agg (Array.mk [.int .i64 r0, .string r1, .int .i64 r2, .int .i64 r3, .slice r5 r4 r6, .int .i64 r7, .slice r9 r8 r10, .int .i64 r11, .slice r13 r12 r14]), .bool true])) (put w4 (w.heap.size + 1) 0 [.int .i64 r0, .string r1, .int .i64 r2, .int .i64 r3, .slice r5 r4 r6, .int .i64 r7, .slice r9 r8 r10, .int .i64 r11, .slice r13 r12 r14]) from ⟨_, f2, rfl, hu.congr fun x hx o => World.cell?_of_block (w := w4) (a := ⟨x, o, none⟩) (heap_put_ne (show x ≠ w.heap.size + 1 by have := hin x hx; omega)), fun x hx => by have := hin x hx; omega, below_put hb6 (by omega)⟩)
      simp only [put, Nat.zero_add, Nat.reduceAdd] at FIN
      clear hu hin hb6
      go_wp2_with fail
      exact bodyPost_ret (v := .tuple #[.agg (Array.mk [.int .i64 r0, .string r1, .int .i64 r2, .int .i64 r3, .slice r5 r4 r6, .int .i64 r7, .slice r9 r8 r10, .int .i64 r11, .slice r13 r12 r14]), .bool true]) (by simp [results, Tryd.results18, go_sem, y0, y1, y2, y3, y4, y5, y6, y7, y8]) rfl FIN.out

set_option linter.unusedVariables false in
set_option linter.unusedSimpArgs false in
set_option maxRecDepth 100000 in
set_option maxHeartbeats 4000000 in
theorem specRelabel (t : Tm) (v : Value) (fp : List Nat) (w : World) (hsz : t.sz ≤ 1048576) (hat : t.At w v fp) : Calls Tryd.prog 16 #[v] w (MadeXB w (relT t) (relB t)) := by
  obtain ⟨e0, e1, e2, e3, e4, e5, e6, e7, e8, e9, e10, e11, e12, e13, e14, rfl⟩ := hat.agg
  have hb0 : Below w.heap.size w ((w.alloc (Obj.cells #[.int .i64 e0, .string e1, .int .i64 e2, .int .i64 e3, .slice e5 e4 e6, .int .i64 e7, .slice e9 e8 e10, .int .i64 e11, .slice e13 e12 e14] 34)).alloc (Obj.cells #[.int .i64 0, .string ⟨#[]⟩, .int .i64 0, .int .i64 0, .slice none 0 0, .int .i64 0, .slice none 0 0, .int .i64 0, .slice none 0 0] 34)) := ((Below.refl _ _).alloc (Nat.le_refl _) _).alloc (by simp) _
  have hs0 : ((w.alloc (Obj.cells #[.int .i64 e0, .string e1, .int .i64 e2, .int .i64 e3, .slice e5 e4 e6, .int .i64 e7, .slice e9 e8 e10, .int .i64 e11, .slice e13 e12 e14] 34)).alloc (Obj.cells #[.int .i64 0, .string ⟨#[]⟩, .int .i64 0, .int .i64 0, .slice none 0 0, .int .i64 0, .slice none 0 0, .int .i64 0, .slice none 0 0] 34)).heap.size = w.heap.size + 1 + 1 := by simp
  obtain ⟨hB0, hZ0⟩ := two_out (Below.refl ((w.alloc (Obj.cells #[.int .i64 e0, .string e1, .int .i64 e2, .int .i64 e3, .slice e5 e4 e6, .int .i64 e7, .slice e9 e8 e10, .int .i64 e11, .slice e13 e12 e14] 34)).alloc (Obj.cells #[.int .i64 0, .string ⟨#[]⟩, .int .i64 0, .int .i64 0, .slice none 0 0, .int .i64 0, .slice none 0 0, .int .i64 0, .slice none 0 0] 34)).heap.size ((w.alloc (Obj.cells #[.int .i64 e0, .string e1, .int .i64 e2, .int .i64 e3, .slice e5 e4 e6, .int .i64 e7, .slice e9 e8 e10, .int .i64 e11, .slice e13 e12 e14] 34)).alloc (Obj.cells #[.int .i64 0, .string ⟨#[]⟩, .int .i64 0, .int .i64 0, .slice none 0 0, .int .i64 0, .slice none 0 0, .int .i64 0, .slice none 0 0] 34)))
  have HV := hid (specCastValid t _ fp ((w.alloc (Obj.cells #[.int .i64 e0, .string e1, .int .i64 e2, .int .i64 e3, .slice e5 e4 e6, .int .i64 e7, .slice e9 e8 e10, .int .i64 e11, .slice e13 e12 e14] 34)).alloc (Obj.cells #[.int .i64 0, .string ⟨#[]⟩, .int .i64 0, .int .i64 0, .slice none 0 0, .int .i64 0, .slice none 0 0, .int .i64 0, .slice none 0 0] 34)) hsz (hat.below hb0))
  have HAT := hid (fun (W' : World) (h : Below w.heap.size w W') => hat.below h)
  have HT := hid (show relB t = false → relT t = zTm from fun h => by simp [relT, h])
  have HT2 := hid (show relB t = true → relT t = lvT nxL chL12 0 t from fun h => by simp [relT, h])
  have HTB := hid (show relB t = (vldC t && decide (ccN t ≤ 99)) from rfl)
  have HCO := hid (show ccN t ≤ 4194304 from by
    have := cc_len t
    omega)
  generalize relT t = EE at *
  generalize relB t = ok at *
  generalize hr : vldC t = r at HV HTB ⊢
  clear hat
  go_enter Tryd.func16, Tryd.ntmps16
  go_upto_region 1 with (fail)
  generalize ((w.alloc (Obj.cells #[.int .i64 e0, .string e1, .int .i64 e2, .int .i64 e3, .slice e5 e4 e6, .int .i64 e7, .slice e9 e8 e10, .int .i64 e11, .slice e13 e12 e14] 34)).alloc (Obj.cells #[.int .i64 0, .string ⟨#[]⟩, .int .i64 0, .int .i64 0, .slice none 0 0, .int .i64 0, .slice none 0 0, .int .i64 0, .slice none 0 0] 34)) = W1 at HV hB0 hZ0 hb0 hs0 ⊢
  obtain ⟨x0, x1, x2, x3, x4, x5, x6, x7, x8⟩ := cells9 hB0
  go_wp2_with fail
  refine HV.out.mono ?_
  rintro e w1 ⟨rfl, hb1⟩
  have hB := blk hB0 hb1
  have hZ := blk hZ0 hb1
  have hbw := below_trans hb0 hb1
  clear x0 x1 x2 x3 x4 x5 x6 x7 x8 hB0 hZ0 HV hb0
  have hs1 : w.heap.size + 1 + 1 ≤ w1.heap.size := by have := hb1.size; omega
  clear hb1
  obtain ⟨x0, x1, x2, x3, x4, x5, x6, x7, x8⟩ := cells9 hB
  obtain ⟨y0, y1, y2, y3, y4, y5, y6, y7, y8⟩ := cells9 hZ
  have yz := fun o => frozen_of_block (o := o) hZ
  have hM := lt_of_block hZ
  cases r with
  | false =>
    obtain rfl : ok = false := HTB.out
    obtain rfl : EE = zTm := HT.out rfl
    have FIN := hid (zero_xb (M := w.heap.size + 1) hbw (by omega))
    simp only [put, Nat.zero_add, Nat.reduceAdd] at FIN
    go_wp2_with fail
    exact bodyPost_ret (v := .tuple #[.agg (Array.mk [.int .i64 0, .string ⟨#[]⟩, .int .i64 0, .int .i64 0, .slice none 0 0, .int .i64 0, .slice none 0 0, .int .i64 0, .slice none 0 0]), .bool false]) (by simp [results, Tryd.results16, go_sem, y0, y1, y2, y3, y4, y5, y6, y7, y8]) rfl FIN.out
  | true =>
    have HCC := hid (l11Casts_any t _ fp w1 (HAT.out _ hbw) hsz)
    change Hid (ok = (true && decide (ccN t ≤ 99))) at HTB
    rw [Bool.true_and] at HTB
    clear y0 y1 y2 y3 y4 y5 y6 y7 y8 yz hM
    have HGD := hid (gd_vld hr hsz)
    generalize ccN t = C at *
    go_wp2_with fail
    refine HCC.out.mono ?_
    rintro e w2 ⟨rfl, hb2⟩
    replace hB := blk hB hb2
    replace hZ := blk hZ hb2
    have hb3 := below_trans hbw hb2
    have hs2 : w.heap.size + 1 + 1 ≤ w2.heap.size := by have := hb2.size; omega
    clear x0 x1 x2 x3 x4 x5 x6 x7 x8 HCC hb2
    obtain ⟨x0, x1, x2, x3, x4, x5, x6, x7, x8⟩ := cells9 hB
    obtain ⟨y0, y1, y2, y3, y4, y5, y6, y7, y8⟩ := cells9 hZ
    have yz := fun o => frozen_of_block (o := o) hZ
    have hM := lt_of_block hZ
    by_cases hc : C ≤ 99
    case neg =>
      obtain rfl : ok = false := HTB.out.trans (by simpa using hc)
      obtain rfl : EE = zTm := HT.out rfl
      have hc' : (99 : Int) < (C : Int) := by omega
      have hc2 : decide ((99 : Int) < (C : Int)) = true := by simpa using hc'
      have FIN := hid (zero_xb (M := w.heap.size + 1) hb3 (by omega))
      simp only [put, Nat.zero_add, Nat.reduceAdd] at FIN
      go_wp2_with fail
      exact bodyPost_ret (v := .tuple #[.agg (Array.mk [.int .i64 0, .string ⟨#[]⟩, .int .i64 0, .int .i64 0, .slice none 0 0, .int .i64 0, .slice none 0 0, .int .i64 0, .slice none 0 0]), .bool false]) (by simp [results, Tryd.results16, go_sem, y0, y1, y2, y3, y4, y5, y6, y7, y8]) rfl FIN.out
    obtain rfl : ok = true := HTB.out.trans (by simpa using hc)
    obtain rfl := HT2.out rfl
    have hc' : ¬ (99 : Int) < (C : Int) := by omega
    have hc2 : decide ((99 : Int) < (C : Int)) = false := by simpa using hc'
    have HC := hid (rel_any t 0 _ fp w2 (HAT.out _ hb3) HGD.out hsz (by omega))
    generalize lvT nxL chL12 0 t = EE at *
    generalize lvN nxL 0 t = nn at *
    clear y0 y1 y2 y3 y4 y5 y6 y7 y8 yz hM
    go_wp2_with fail
    refine HC.out.mono ?_
    rintro e w3 ⟨v2, f2, rfl, hu, hin, hb4⟩
    obtain ⟨r0, r1, r2, r3, r4, r5, r6, r7, r8, r9, r10, r11, r12, r13, r14, rfl⟩ := hu.agg
    have hb5 := below_trans hb3 hb4
    have hal2 : Below w3.heap.size w3 (w3.alloc (Obj.cells #[.int .i64 r0, .string r1, .int .i64 r2, .int .i64 r3, .slice r5 r4 r6, .int .i64 r7, .slice r9 r8 r10, .int .i64 r11, .slice r13 r12 r14] 34)) := (Below.refl _ _).alloc (Nat.le_refl _) _
    have hI := alloc_new w3 (Obj.cells #[.int .i64 r0, .string r1, .int .i64 r2, .int .i64 r3, .slice r5 r4 r6, .int .i64 r7, .slice r9 r8 r10, .int .i64 r11, .slice r13 r12 r14] 34)
    have hZ2 := blk (blk hZ hb4) hal2
    have hb6 := below_trans hb5 hal2
    replace hu := hu.below hal2
    clear x0 x1 x2 x3 x4 x5 x6 x7 x8 hb4 hb5 HC
    go_upto_region 4 with (fail)
    generalize hx : w3.alloc (Obj.cells #[.int .i64 r0, .string r1, .int .i64 r2, .int .i64 r3, .slice r5 r4 r6, .int .i64 r7, .slice r9 r8 r10, .int .i64 r11, .slice r13 r12 r14] 34) = W3 at hI hZ2 hb6 hu ⊢
    clear hal2 hx
    obtain ⟨x0, x1, x2, x3, x4, x5, x6, x7, x8⟩ := cells9 hI
    obtain ⟨y0, y1, y2, y3, y4, y5, y6, y7, y8⟩ := cells9 hZ2
    have yz := fun o => frozen_of_block (o := o) hZ2
    have hM := lt_of_block hZ2
    have FIN := hid (show MadeXB w EE true (.returned (.tuple #[.agg (Array.mk [.int .i64 r0, .string r1, .int .i64 r2, .int .i64 r3, .slice r5 r4 r6, .int .i64 r7, .slice r9 r8 r10, .int .i64 r11, .slice r13 r12 r14]), .bool true])) (put W3 (w.heap.size + 1) 0 [.int .i64 r0, .string r1, .int .i64 r2, .int .i64 r3, .slice r5 r4 r6, .int .i64 r7, .slice r9 r8 r10, .int .i64 r11, .slice r13 r12 r14]) from ⟨_, f2, rfl, hu.congr fun x hx o => World.cell?_of_block (w := W3) (a := ⟨x, o, none⟩) (heap_put_ne (show x ≠ w.heap.size + 1 by have := hin x hx; omega)), fun x hx => by have := hin x hx; omega, below_put hb6 (by omega)⟩)
    simp only [put, Nat.zero_add, Nat.reduceAdd] at FIN
    clear hu hin hb6
    go_wp2_with fail
    exact bodyPost_ret (v := .tuple #[.agg (Array.mk [.int .i64 r0, .string r1, .int .i64 r2, .int .i64 r3, .slice r5 r4 r6, .int .i64 r7, .slice r9 r8 r10, .int .i64 r11, .slice r13 r12 r14]), .bool true]) (by simp [results, Tryd.results16, go_sem, y0, y1, y2, y3, y4, y5, y6, y7, y8]) rfl FIN.out

set_option linter.unusedVariables false in
set_option linter.unusedSimpArgs false in
set_option maxRecDepth 100000 in
set_option maxHeartbeats 4000000 in
theorem specRedundant (t : Tm) (v : Value) (fp : List Nat) (w : World) (hsz : t.sz ≤ 1048576) (hat : t.At w v fp) : Calls Tryd.prog 14 #[v] w fun e w' => e = .returned (.int .i64 (redC t)) ∧ Below w.heap.size w w' := by
  obtain ⟨e0, e1, e2, e3, e4, e5, e6, e7, e8, e9, e10, e11, e12, e13, e14, rfl⟩ := hat.agg
  have hb0 : Below w.heap.size w (w.alloc (Obj.cells #[.int .i64 e0, .string e1, .int .i64 e2, .int .i64 e3, .slice e5 e4 e6, .int .i64 e7, .slice e9 e8 e10, .int .i64 e11, .slice e13 e12 e14] 34)) := (Below.refl _ _).alloc (Nat.le_refl _) _
  have hB0 := alloc_new w (Obj.cells #[.int .i64 e0, .string e1, .int .i64 e2, .int .i64 e3, .slice e5 e4 e6, .int .i64 e7, .slice e9 e8 e10, .int .i64 e11, .slice e13 e12 e14] 34)
  have HV := hid (specCastValid t _ fp (w.alloc (Obj.cells #[.int .i64 e0, .string e1, .int .i64 e2, .int .i64 e3, .slice e5 e4 e6, .int .i64 e7, .slice e9 e8 e10, .int .i64 e11, .slice e13 e12 e14] 34)) hsz (hat.below hb0))
  have HAT := hid (fun (W' : World) (h : Below w.heap.size w W') => hat.below h)
  have HT1 := hid (fun (h : vldC t = true) => red_eq h hsz)
  have HT0 := hid (fun (h : vldC t = false) => red_no h)
  have HSZ := hid (fun (h : vldC t = true) => sz_sim h hsz)
  generalize redC t = RR at *
  generalize hr : vldC t = r at HV HT1 HT0 HSZ ⊢
  clear hat
  go_enter Tryd.func14, Tryd.ntmps14
  go_upto_region 1 with (fail)
  generalize (w.alloc (Obj.cells #[.int .i64 e0, .string e1, .int .i64 e2, .int .i64 e3, .slice e5 e4 e6, .int .i64 e7, .slice e9 e8 e10, .int .i64 e11, .slice e13 e12 e14] 34)) = W1 at HV hB0 hb0 ⊢
  obtain ⟨x0, x1, x2, x3, x4, x5, x6, x7, x8⟩ := cells9 hB0
  go_wp2_with fail
  refine HV.out.mono ?_
  rintro e w1 ⟨rfl, hb1⟩
  have hB := blk hB0 hb1
  have hbw := below_trans hb0 hb1
  clear x0 x1 x2 x3 x4 x5 x6 x7 x8 hB0 HV hb0 hb1
  obtain ⟨x0, x1, x2, x3, x4, x5, x6, x7, x8⟩ := cells9 hB
  cases r with
  | false =>
    have HT := hid (HT0.out rfl)
    go_wp2_with fail
    go_ret
    exact ⟨ret_i (by rw [HT.out]), hbw⟩
  | true =>
    have HT := hid (HT1.out rfl)
    have HZ := hid (HSZ.out rfl)
    have HGD := hid (gd_vld hr hsz)
    have HC1 := hid (fun (W : World) (h : Below w1.heap.size w1 W) => l11Casts_any t _ fp W (HAT.out _ (below_trans hbw h)) hsz)
    have HC2 := hid (fun (W : World) (h : Below w1.heap.size w1 W) => (show Calls Tryd.prog 23 _ W (MadeX W (simN t)) from sim_any t _ fp W (HAT.out _ (below_trans hbw h)) HGD.out hsz))
    have HS := hid (fun (W : World) (h : Below w1.heap.size w1 W) => (show W.cell? ⟨w.heap.size, 0, none⟩ = some (.int .i64 e0) ∧ W.cell? ⟨w.heap.size, 1, none⟩ = some (.string e1) ∧ W.cell? ⟨w.heap.size, 2, none⟩ = some (.int .i64 e2) ∧ W.cell? ⟨w.heap.size, 3, none⟩ = some (.int .i64 e3) ∧ W.cell? ⟨w.heap.size, 4, none⟩ = some (.slice e5 e4 e6) ∧ W.cell? ⟨w.heap.size, 5, none⟩ = some (.int .i64 e7) ∧ W.cell? ⟨w.heap.size, 6, none⟩ = some (.slice e9 e8 e10) ∧ W.cell? ⟨w.heap.size, 7, none⟩ = some (.int .i64 e11) ∧ W.cell? ⟨w.heap.size, 8, none⟩ = some (.slice e13 e12 e14) from ⟨cell_keep x0 h, cell_keep x1 h, cell_keep x2 h, cell_keep x3 h, cell_keep x4 h, cell_keep x5 h, cell_keep x6 h, cell_keep x7 h, cell_keep x8 h⟩))
    have hc1 : ccN t ≤ 4194304 := by have := cc_len t; omega
    have hc2 : ccN (simN t) ≤ 4194304 := by have := cc_len (simN t); have := HZ.out; omega
    generalize hC1 : ccN t = C1 at *
    generalize hC2 : ccN (simN t) = C2 at *
    have hi1 : (0 : Int) ≤ (C1 : Int) := by omega
    have hi2 : (0 : Int) ≤ (C2 : Int) := by omega
    have hi3 : (C1 : Int) ≤ 4194304 := by omega
    have hi4 : (C2 : Int) ≤ 4194304 := by omega
    clear x0 x1 x2 x3 x4 x5 x6 x7 x8 hB
    go_upto_region 3 with (fail)
    refine regionL (s := 6) (S0 := (fun w' => w'.cell? ⟨w.heap.size, 0, none⟩ = some (.int .i64 e0) ∧ w'.cell? ⟨w.heap.size, 1, none⟩ = some (.string e1) ∧ w'.cell? ⟨w.heap.size, 2, none⟩ = some (.int .i64 e2) ∧ w'.cell? ⟨w.heap.size, 3, none⟩ = some (.int .i64 e3) ∧ w'.cell? ⟨w.heap.size, 4, none⟩ = some (.slice e5 e4 e6) ∧ w'.cell? ⟨w.heap.size, 5, none⟩ = some (.int .i64 e7) ∧ w'.cell? ⟨w.heap.size, 6, none⟩ = some (.slice e9 e8 e10) ∧ w'.cell? ⟨w.heap.size, 7, none⟩ = some (.int .i64 e11) ∧ w'.cell? ⟨w.heap.size, 8, none⟩ = some (.slice e13 e12 e14))) (S1 := (fun _ => True)) (by kernel_rfl) (HS.out _ (below_drew w1)) (trivial) (fun hS0 => ?_)
    refine takeL0 (i := 0) (v := ?vr1) rfl rfl (by kernel_rfl) (by kernel_rfl) (by kernel_rfl) (by decide) (by kernel_rfl) (by kernel_rfl) (fun _ _ _ h => h) (Or.inl ⟨by rfl, ?hyr1⟩) (by assumption) ?_
    case hyr1 => (intro w hSw; (try dsimp only at hSw); go_simp; (try with_reducible rfl))
    try simp only [Act.put, List.setIfInBounds_toArray, List.set_cons_zero, List.set_cons_succ]
    refine takeL0 (i := 2) (v := ?vr2) rfl rfl (by kernel_rfl) (by kernel_rfl) (by kernel_rfl) (by decide) (by kernel_rfl) (by kernel_rfl) (fun _ _ _ h => h) (Or.inl ⟨by rfl, ?hyr2⟩) (by assumption) ?_
    case hyr2 => (intro w hSw; (try dsimp only at hSw); go_simp; (try with_reducible rfl))
    try simp only [Act.put, List.setIfInBounds_toArray, List.set_cons_zero, List.set_cons_succ]
    refine readyL (rs := [1]) (by kernel_rfl) (by simp) ?_
    refine AllReadyL.cons rfl (fun K hK => ?_) AllReadyL.nil
    go_simp
    refine (HC1.out _ (below_drew w1)).mono ?_
    rintro e w2 ⟨rfl, hb2⟩
    have hk2 := below_trans (below_drew w1) hb2
    refine hK.out _ _ ?_ (fun hS1 => ?_)
    · exact ⟨trivial, fun _ => HS.out _ hk2⟩
    clear hK K hS0
    try simp only [Act.put, List.setIfInBounds_toArray, List.set_cons_zero, List.set_cons_succ]
    refine readyL (rs := [3]) (by kernel_rfl) (by simp) ?_
    refine AllReadyL.cons rfl (fun K hK => ?_) AllReadyL.nil
    go_simp
    refine (HC2.out _ hk2).mono ?_
    rintro e w3 ⟨v3, f3, rfl, hu3, -, hb3⟩
    obtain ⟨r0, r1, r2, r3, r4, r5, r6, r7, r8, r9, r10, r11, r12, r13, r14, rfl⟩ := hu3.agg
    have hk3 := below_trans hk2 hb3
    refine hK.out _ _ ?_ (fun hS2 => ?_)
    · exact ⟨trivial, fun _ => HS.out _ hk3⟩
    clear hK K hS1
    try simp only [Act.put, List.setIfInBounds_toArray, List.set_cons_zero, List.set_cons_succ]
    refine readyL (rs := [4]) (by kernel_rfl) (by simp) ?_
    refine AllReadyL.cons rfl (fun K hK => ?_) AllReadyL.nil
    go_simp
    have q4 := l11Casts_any _ _ _ w3 hu3 HZ.out
    rw [hC2] at q4
    refine q4.mono ?_
    rintro e w4 ⟨rfl, hb4⟩
    have hk4 := below_trans hk3 hb4
    refine hK.out _ _ ?_ (fun hS3 => ?_)
    · exact ⟨trivial, fun _ => HS.out _ hk4⟩
    clear hK K hS2
    try simp only [Act.put, List.setIfInBounds_toArray, List.set_cons_zero, List.set_cons_succ]
    refine takeL0 (i := 5) (v := ?vr3) rfl rfl (by kernel_rfl) (by kernel_rfl) (by kernel_rfl) (by decide) (by kernel_rfl) (by kernel_rfl) (fun _ _ _ h => h) (Or.inl ⟨by rfl, ?hyr3⟩) (by assumption) ?_
    case hyr3 => (intro w hSw; (try dsimp only at hSw); go_simp; (try with_reducible rfl))
    try simp only [Act.put, List.setIfInBounds_toArray, List.set_cons_zero, List.set_cons_succ]
    refine readyL (rs := [6]) (by kernel_rfl) (by simp) ?_
    refine AllReadyL.cons rfl (fun K hK => ?_) AllReadyL.nil
    go_simp
    refine hK.out _ _ ?_ (fun hS4 => ?_)
    · exact ⟨trivial, fun h => absurd (h.symm.trans (show _ = true by kernel_rfl)) (by decide)⟩
    clear hK K hS3
    try simp only [Act.put, List.setIfInBounds_toArray, List.set_cons_zero, List.set_cons_succ]
    refine doneL (by kernel_rfl) ?_ _
    have hb5 := below_trans hbw hk4
    go_wp2_with fail
    go_ret
    exact ⟨ret_i (by rw [HT.out]; rw [IntKind.wrap_i64]; omega), hb5⟩
end Go.Proofs.YtjpmlmdbldcbjaaDoor

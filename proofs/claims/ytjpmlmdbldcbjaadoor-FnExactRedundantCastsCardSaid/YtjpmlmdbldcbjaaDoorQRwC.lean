/- The program's rewriteTerm, over any change of nodes that has a contract. -/
import Derived.Test.YtjpmlmdbldcbjaaDoorQRwk
namespace Go.Proofs.YtjpmlmdbldcbjaaDoor
open Go.RowKit

section
variable (nx : Nat → Tm → Nat) (ch : Nat → Tm → Tm ⊕ (Ty × Ty))

end

theorem boxes_bo {U : Option Nat} {w w1 : World} {o1 o2 : Obj} (hU : UL U w.heap.size) (h : Bo U ((w.alloc o1).alloc o2) w1) : w1.heap[w.heap.size]? = some o1 ∧ w1.heap[w.heap.size + 1]? = some o2 := by
  obtain ⟨a, b⟩ := two_out (Below.refl ((w.alloc o1).alloc o2).heap.size ((w.alloc o1).alloc o2))
  exact ⟨h.block' a (hU.ne (Nat.le_refl _)), h.block' b (hU.ne (by omega))⟩

/-- A change of a node: what takes its place, whole; or a node of new types whose operands, which lay there, are to be rewritten into us. -/
def NdOut (fc : FuncId) (cs : Array Value) (U : Option Nat) (S0 : Nat) (St : Nat → World → Prop) (w : World) (fp : List Nat) (n' : Nat) (u : Tm) (e : Ending) (w' : World) : Prop :=
  (∃ v f, e = .returned (.tuple #[v, .bool false]) ∧ u.At w' v f ∧ Fresh w.heap.size w' f ∧ Bo U w w' ∧ St n' w') ∨
  (∃ (J : Nat → World → Prop) (k : Int) (nm : ByteArray) (num : Int) (ty fr : Ty) (lb : Int) (ts us : List Tm) (a3 : Option Addr) (c3 : Nat) (f3 : List Nat) (k1 : Int) (n1 : Nat) (a1 : Option Addr) (c1 : Nat) (k2 : Int) (n2 : Nat) (a2 : Option Addr) (c2 : Nat) (g1 g2 : List Nat),
    e = .returned (.tuple #[.agg #[.int .i64 k, .string nm, .int .i64 num, .int .i64 k1, .slice a1 n1 c1, .int .i64 k2, .slice a2 n2 c2, .int .i64 lb, .slice a3 ts.length c3], .bool true]) ∧ u = .mk k nm num ty fr lb us ∧ us.length = ts.length ∧ ts.length ≤ 1048576 ∧ nm.size ≤ 9223372036854775807 ∧
    SmAt w ts (.slice a3 ts.length c3) f3 ∧ (∀ b ∈ f3, b ∈ fp) ∧ Ty.At w' ty (.agg #[.int .i64 k1, .slice a1 n1 c1]) g1 ∧ Ty.At w' fr (.agg #[.int .i64 k2, .slice a2 n2 c2]) g2 ∧ Fresh w.heap.size w' (g1 ++ g2) ∧ Bo U w w' ∧
    J 0 w' ∧ (∀ w, J ts.length w → St n' w) ∧ (∀ n w w', J n w → Below S0 w w' → J n w') ∧
    ∀ (j : Nat) (h : j < ts.length) (h' : j < us.length) v fp w, ts[j].At w v fp → J j w → S0 ≤ w.heap.size → (∀ b ∈ fp, some b ≠ U) → Calls Tryd.prog 74 #[v, .func (.func fc) #[] cs] w (RoOut U J w (j + 1) us[j]))

set_option maxRecDepth 100000 in
set_option maxHeartbeats 4000000 in
theorem rewriteVia (fc : FuncId) (cs : Array Value) (U : Option Nat) (S0 : Nat) (St : Nat → World → Prop) (hfc : CallOkT fc) (hU : UL U S0) (hSt : ∀ n w w', St n w → Below S0 w w' → St n w') (t : Tm) (v : Value) (fp : List Nat) (w : World) (n' : Nat) (u : Tm)
    (hat : t.At w v fp) (hfp : ∀ b ∈ fp, some b ≠ U) (hS0 : S0 ≤ w.heap.size) (hcall : ∀ W, Below w.heap.size w W → Calls Tryd.prog fc (#[v] ++ cs) W (NdOut fc cs U S0 St W fp n' u)) :
    Calls Tryd.prog 74 #[v, .func (.func fc) #[] cs] w (RoOut U St w n' u) := by
  have hlt := hat.lt
  obtain ⟨e0, e1, e2, e3, e4, e5, e6, e7, e8, e9, e10, e11, e12, e13, e14, rfl⟩ := hat.agg
  have hb0 : Below w.heap.size w ((w.alloc (Obj.cells #[.int .i64 e0, .string e1, .int .i64 e2, .int .i64 e3, .slice e5 e4 e6, .int .i64 e7, .slice e9 e8 e10, .int .i64 e11, .slice e13 e12 e14] 34)).alloc (Obj.cells #[.int .i64 0, .string ByteArray.empty, .int .i64 0, .int .i64 0, .slice none 0 0, .int .i64 0, .slice none 0 0, .int .i64 0, .slice none 0 0] 34)) := ((Below.refl _ _).alloc (Nat.le_refl _) _).alloc (by simp) _
  have hs0 : (((w.alloc (Obj.cells #[.int .i64 e0, .string e1, .int .i64 e2, .int .i64 e3, .slice e5 e4 e6, .int .i64 e7, .slice e9 e8 e10, .int .i64 e11, .slice e13 e12 e14] 34)).alloc (Obj.cells #[.int .i64 0, .string ByteArray.empty, .int .i64 0, .int .i64 0, .slice none 0 0, .int .i64 0, .slice none 0 0, .int .i64 0, .slice none 0 0] 34))).heap.size = w.heap.size + 1 + 1 := by simp
  have HCALL := hid (hcall ((w.alloc (Obj.cells #[.int .i64 e0, .string e1, .int .i64 e2, .int .i64 e3, .slice e5 e4 e6, .int .i64 e7, .slice e9 e8 e10, .int .i64 e11, .slice e13 e12 e14] 34)).alloc (Obj.cells #[.int .i64 0, .string ByteArray.empty, .int .i64 0, .int .i64 0, .slice none 0 0, .int .i64 0, .slice none 0 0, .int .i64 0, .slice none 0 0] 34)) hb0)
  have HST := hid hSt
  have HB0 := hid hb0
  have HZ0 := hid hs0
  have HS0 := hid hS0
  have HU := hid (hU.mono hS0)
  have HU0 := hid hU
  have HFP := hid (And.intro hlt hfp)
  unfold CallOkT at hfc
  clear hat hb0 hs0 hcall hSt hS0 hU hlt hfp
  go_enter Tryd.func74, Tryd.ntmps74
  go_wp2_with fail
  refine HCALL.out.mono ?_
  rintro e w1 (⟨v', f', rfl, hu, hf, hbx, hst1⟩ | ⟨J, k, nm, num, ty, fr, lb, ts, us, a3, c3, f3, j1, m1, p1, d1, j2, m2, p2, d2, g1, g2, rfl, rfl, hlen, hszt, hnm, hsm, hf3, hv1, hv2, hg, hbx, hj0, hjn, hJ, hkid⟩)
  · obtain ⟨r0, r1, r2, r3, r4, r5, r6, r7, r8, r9, r10, r11, r12, r13, r14, rfl⟩ := hu.agg
    obtain ⟨hB, hZ⟩ := boxes_bo HU.out hbx
    obtain ⟨x0, x1, x2, x3, x4, x5, x6, x7, x8⟩ := cells9 hB
    obtain ⟨y0, y1, y2, y3, y4, y5, y6, y7, y8⟩ := cells9 hZ
    have xz := fun o => frozen_of_block (o := o) hB
    have yz := fun o => frozen_of_block (o := o) hZ
    have hM : w.heap.size + 1 < w1.heap.size := lt_of_block hZ
    rw [HZ0.out] at hf
    have ab : Above (w.heap.size + 1 + 1) w1 (put (put w1 w.heap.size 0 [.int .i64 r0, .string r1, .int .i64 r2, .int .i64 r3, .slice r5 r4 r6, .int .i64 r7, .slice r9 r8 r10, .int .i64 r11, .slice r13 r12 r14]) (w.heap.size + 1) 0 [.int .i64 r0, .string r1, .int .i64 r2, .int .i64 r3, .slice r5 r4 r6, .int .i64 r7, .slice r9 r8 r10, .int .i64 r11, .slice r13 r12 r14]) := ((Above.refl (w.heap.size + 1 + 1) w1).put (by omega)).put (by omega)
    have hbb : Below w.heap.size w1 (put (put w1 w.heap.size 0 [.int .i64 r0, .string r1, .int .i64 r2, .int .i64 r3, .slice r5 r4 r6, .int .i64 r7, .slice r9 r8 r10, .int .i64 r11, .slice r13 r12 r14]) (w.heap.size + 1) 0 [.int .i64 r0, .string r1, .int .i64 r2, .int .i64 r3, .slice r5 r4 r6, .int .i64 r7, .slice r9 r8 r10, .int .i64 r11, .slice r13 r12 r14]) := below_put (below_put (Below.refl w.heap.size w1) (Nat.le_refl _)) (by omega)
    have FIN := hid (show RoOut U St w n' u (.returned (.agg (Array.mk [.int .i64 r0, .string r1, .int .i64 r2, .int .i64 r3, .slice r5 r4 r6, .int .i64 r7, .slice r9 r8 r10, .int .i64 r11, .slice r13 r12 r14]))) (put (put w1 w.heap.size 0 [.int .i64 r0, .string r1, .int .i64 r2, .int .i64 r3, .slice r5 r4 r6, .int .i64 r7, .slice r9 r8 r10, .int .i64 r11, .slice r13 r12 r14]) (w.heap.size + 1) 0 [.int .i64 r0, .string r1, .int .i64 r2, .int .i64 r3, .slice r5 r4 r6, .int .i64 r7, .slice r9 r8 r10, .int .i64 r11, .slice r13 r12 r14]) from ⟨_, f', rfl, hu.above ab hf.ge, (hf.above ab (Nat.le_refl _)).mono (by omega), ((Bo.of_below HB0.out).trans hbx).trans_below hbb (Nat.le_refl _), HST.out _ _ _ hst1 (hbb.mono HS0.out)⟩)
    clear hB hZ hu hf hbx hst1 HB0 HZ0 HCALL hfc ab hbb
    go_wp2_with fail
    exact bodyPost_ret (v := .agg (Array.mk [.int .i64 r0, .string r1, .int .i64 r2, .int .i64 r3, .slice r5 r4 r6, .int .i64 r7, .slice r9 r8 r10, .int .i64 r11, .slice r13 r12 r14])) (by simp [results, Tryd.results74, go_sem, y0, y1, y2, y3, y4, y5, y6, y7, y8]) rfl FIN.out
  · obtain ⟨hB, hZ⟩ := boxes_bo HU.out hbx
    obtain ⟨x0, x1, x2, x3, x4, x5, x6, x7, x8⟩ := cells9 hB
    have xz := fun o => frozen_of_block (o := o) hB
    have hM : w.heap.size + 1 < w1.heap.size := lt_of_block hZ
    rw [HZ0.out] at hg
    have hb1 : Below w.heap.size w1 (put w1 w.heap.size 0 [.int .i64 k, .string nm, .int .i64 num, .int .i64 j1, .slice p1 m1 d1, .int .i64 j2, .slice p2 m2 d2, .int .i64 lb, .slice a3 ts.length c3]) := below_put (Below.refl w.heap.size w1) (Nat.le_refl _)
    have ab1 : Above (w.heap.size + 1 + 1) w1 (put w1 w.heap.size 0 [.int .i64 k, .string nm, .int .i64 num, .int .i64 j1, .slice p1 m1 d1, .int .i64 j2, .slice p2 m2 d2, .int .i64 lb, .slice a3 ts.length c3]) := (Above.refl (w.heap.size + 1 + 1) w1).put (by omega)
    have sz2 : (put w1 w.heap.size 0 [.int .i64 k, .string nm, .int .i64 num, .int .i64 j1, .slice p1 m1 d1, .int .i64 j2, .slice p2 m2 d2, .int .i64 lb, .slice a3 ts.length c3]).heap.size = w1.heap.size := size_put
    have hbw : Bo U w (put w1 w.heap.size 0 [.int .i64 k, .string nm, .int .i64 num, .int .i64 j1, .slice p1 m1 d1, .int .i64 j2, .slice p2 m2 d2, .int .i64 lb, .slice a3 ts.length c3]) := ((Bo.of_below HB0.out).trans hbx).trans_below hb1 (Nat.le_refl _)
    have hB2 : (put w1 w.heap.size 0 [.int .i64 k, .string nm, .int .i64 num, .int .i64 j1, .slice p1 m1 d1, .int .i64 j2, .slice p2 m2 d2, .int .i64 lb, .slice a3 ts.length c3]).heap[w.heap.size]? = some (.cells (Array.mk [.int .i64 k, .string nm, .int .i64 num, .int .i64 j1, .slice p1 m1 d1, .int .i64 j2, .slice p2 m2 d2, .int .i64 lb, .slice a3 ts.length c3]) 34 (0, 0)) := by
      rw [heap_put hB]
      simp only [putA, List.setIfInBounds_toArray, List.set]
    have hZ2 : (put w1 w.heap.size 0 [.int .i64 k, .string nm, .int .i64 num, .int .i64 j1, .slice p1 m1 d1, .int .i64 j2, .slice p2 m2 d2, .int .i64 lb, .slice a3 ts.length c3]).heap[w.heap.size + 1]? = some (Obj.cells #[.int .i64 0, .string ByteArray.empty, .int .i64 0, .int .i64 0, .slice none 0 0, .int .i64 0, .slice none 0 0, .int .i64 0, .slice none 0 0] 34) := (heap_put_ne (by omega)).trans hZ
    have hsm1 : SmAt w1 ts (.slice a3 ts.length c3) f3 := hbx.sm hsm fun b hb => HFP.out.2 b (hf3 b hb)
    have hsm2 : SmAt (put w1 w.heap.size 0 [.int .i64 k, .string nm, .int .i64 num, .int .i64 j1, .slice p1 m1 d1, .int .i64 j2, .slice p2 m2 d2, .int .i64 lb, .slice a3 ts.length c3]) ts (.slice a3 ts.length c3) f3 := hsm1.congr fun b hb o => World.cell?_of_block (w := w1) (a := ⟨b, o, none⟩) (heap_put_ne (show b ≠ w.heap.size by have := HFP.out.1 b (hf3 b hb); omega))
    have HKW := hid (rewriteKids_of fc cs U S0 (w.heap.size + 1 + 1) J HU0.out (HU.out.mono (by omega)) hJ ts us hlen hszt hkid k nm num ty fr lb j1 m1 p1 d1 j2 m2 p2 d2 a3 c3 g1 g2 f3 (put w1 w.heap.size 0 [.int .i64 k, .string nm, .int .i64 num, .int .i64 j1, .slice p1 m1 d1, .int .i64 j2, .slice p2 m2 d2, .int .i64 lb, .slice a3 ts.length c3]) hnm (hv1.above ab1 (fun b hb => hg.ge b (by simp [hb]))) (hv2.above ab1 (fun b hb => hg.ge b (by simp [hb]))) (hg.above ab1 (Nat.le_refl _)) (by rw [sz2]; omega) hsm2 (fun b hb => HFP.out.2 b (hf3 b hb)) (hJ _ _ _ hj0 (hb1.mono HS0.out)) (Nat.le_trans HS0.out hbw.size))
    have HW2 := hid (And.intro hB2 (And.intro hZ2 (And.intro hbw sz2)))
    have HJN := hid hjn
    clear hB hZ hv1 hv2 hg hbx hj0 hjn hJ hkid hb1 ab1 hB2 hZ2 hbw sz2 hsm hsm1 hsm2 hf3 hlen hszt hnm HB0 HZ0 HCALL hfc HFP
    go_upto_region 2 with (fail)
    generalize hW2 : (((((((((w1.setCell ⟨w.heap.size, 0, none⟩ (.int .i64 k)).setCell ⟨w.heap.size, 1, none⟩ (.string nm)).setCell ⟨w.heap.size, 2, none⟩ (.int .i64 num)).setCell ⟨w.heap.size, 3, none⟩ (.int .i64 j1)).setCell ⟨w.heap.size, 4, none⟩ (.slice p1 m1 d1)).setCell ⟨w.heap.size, 5, none⟩ (.int .i64 j2)).setCell ⟨w.heap.size, 6, none⟩ (.slice p2 m2 d2)).setCell ⟨w.heap.size, 7, none⟩ (.int .i64 lb)).setCell ⟨w.heap.size, 8, none⟩ (.slice a3 ts.length c3)) = W2
    have e2 : W2 = put w1 w.heap.size 0 [.int .i64 k, .string nm, .int .i64 num, .int .i64 j1, .slice p1 m1 d1, .int .i64 j2, .slice p2 m2 d2, .int .i64 lb, .slice a3 ts.length c3] := by rw [← hW2]; simp only [put, Nat.zero_add, Nat.reduceAdd]
    rw [← e2] at HKW HW2
    clear x0 x1 x2 x3 x4 x5 x6 x7 x8 xz e2 hW2
    obtain ⟨x0, x1, x2, x3, x4, x5, x6, x7, x8⟩ := cells9 HW2.out.1
    have hM2 : w.heap.size + 1 < W2.heap.size := lt_of_block HW2.out.2.1
    go_wp2_with fail
    refine HKW.out.mono ?_
    rintro e w3 ⟨v', f', rfl, hat3, hf3', hbx3, hst3⟩
    obtain ⟨r0, r1, r2, r3, r4, r5, r6, r7, r8, r9, r10, r11, r12, r13, r14, rfl⟩ := hat3.agg
    have hZ3 := hbx3.block' HW2.out.2.1 (HU.out.ne (by omega))
    obtain ⟨y0, y1, y2, y3, y4, y5, y6, y7, y8⟩ := cells9 hZ3
    have yz := fun o => frozen_of_block (o := o) hZ3
    have hM3 : w.heap.size + 1 < w3.heap.size := lt_of_block hZ3
    have ab3 : Above (w.heap.size + 1 + 1) w3 (put w3 (w.heap.size + 1) 0 [.int .i64 r0, .string r1, .int .i64 r2, .int .i64 r3, .slice r5 r4 r6, .int .i64 r7, .slice r9 r8 r10, .int .i64 r11, .slice r13 r12 r14]) := (Above.refl _ _).put (Nat.lt_succ_self _)
    have hb3 : Below w.heap.size w3 (put w3 (w.heap.size + 1) 0 [.int .i64 r0, .string r1, .int .i64 r2, .int .i64 r3, .slice r5 r4 r6, .int .i64 r7, .slice r9 r8 r10, .int .i64 r11, .slice r13 r12 r14]) := below_put (Below.refl w.heap.size w3) (by omega)
    have FIN := hid (show RoOut U St w n' (.mk k nm num ty fr lb us) (.returned (.agg (Array.mk [.int .i64 r0, .string r1, .int .i64 r2, .int .i64 r3, .slice r5 r4 r6, .int .i64 r7, .slice r9 r8 r10, .int .i64 r11, .slice r13 r12 r14]))) (put w3 (w.heap.size + 1) 0 [.int .i64 r0, .string r1, .int .i64 r2, .int .i64 r3, .slice r5 r4 r6, .int .i64 r7, .slice r9 r8 r10, .int .i64 r11, .slice r13 r12 r14]) from
      ⟨_, f', rfl, hat3.above ab3 hf3'.ge, (hf3'.above ab3 (Nat.le_refl _)).mono (by omega), (HW2.out.2.2.1.trans hbx3).trans_below hb3 (Nat.le_refl _), HST.out _ _ _ (HJN.out _ hst3) (hb3.mono HS0.out)⟩)
    clear hat3 hf3' hbx3 hst3 hZ3 ab3 hb3 x0 x1 x2 x3 x4 x5 x6 x7 x8 HW2 HKW
    go_wp2_with fail
    exact bodyPost_ret (v := .agg (Array.mk [.int .i64 r0, .string r1, .int .i64 r2, .int .i64 r3, .slice r5 r4 r6, .int .i64 r7, .slice r9 r8 r10, .int .i64 r11, .slice r13 r12 r14])) (by simp [results, Tryd.results74, go_sem, y0, y1, y2, y3, y4, y5, y6, y7, y8]) rfl FIN.out

end Go.Proofs.YtjpmlmdbldcbjaaDoor

/- The program's rewriteTerm, over any change of nodes that has a contract. -/
import Derived.Test.YtffmpjcjmffdeaaDoorVRwk
namespace Go.Proofs.YtffmpjcjmffdeaaDoor
open Go.RowKit

section
variable (nx : Nat → Tm → Nat) (ch : Nat → Tm → Tm ⊕ (Ty × Ty))
mutual
/-- The state behind a term. -/
def rwN : Nat → Tm → Nat
  | n, .mk k nm num ty fr lb ts => match ch n (.mk k nm num ty fr lb ts) with
    | .inl _ => nx n (.mk k nm num ty fr lb ts)
    | .inr _ => rwNL (nx n (.mk k nm num ty fr lb ts)) ts
def rwNL : Nat → List Tm → Nat
  | n, [] => n
  | n, t :: ts => rwNL (rwN n t) ts
end
mutual
/-- The rewritten term. -/
def rwT : Nat → Tm → Tm
  | n, .mk k nm num ty fr lb ts => match ch n (.mk k nm num ty fr lb ts) with
    | .inl u => u
    | .inr x => .mk k nm num x.1 x.2 lb (rwL (nx n (.mk k nm num ty fr lb ts)) ts)
def rwL : Nat → List Tm → List Tm
  | _, [] => []
  | n, t :: ts => rwT n t :: rwL (rwN nx ch n t) ts
end

theorem rwL_len : ∀ (ts : List Tm) (n : Nat), (rwL nx ch n ts).length = ts.length
  | [], _ => by simp only [rwL, List.length_nil]
  | t :: ts, n => by simp only [rwL, List.length_cons, rwL_len ts]

theorem rwNL_take : ∀ (ts : List Tm) (n j : Nat) (h : j < ts.length), rwNL nx ch n (ts.take (j + 1)) = rwN nx ch (rwNL nx ch n (ts.take j)) ts[j]
  | t :: ts, n, 0, _ => by simp [rwNL]
  | t :: ts, n, j + 1, h => by
    simp only [List.take_succ_cons, rwNL, List.getElem_cons_succ]
    exact rwNL_take ts _ j (by simpa using h)

theorem rwL_get : ∀ (ts : List Tm) (n j : Nat) (h : j < ts.length) (h' : j < (rwL nx ch n ts).length), (rwL nx ch n ts)[j] = rwT nx ch (rwNL nx ch n (ts.take j)) ts[j]
  | t :: ts, n, 0, _, _ => by simp [rwL, rwNL]
  | t :: ts, n, j + 1, h, h' => by
    simp only [rwL, List.take_succ_cons, rwNL, List.getElem_cons_succ]
    exact rwL_get ts _ j (by simpa using h) _

end

theorem boxes_bo {U : Option Nat} {w w1 : World} {o1 o2 : Obj} (hU : UL U w.heap.size) (h : Bo U ((w.alloc o1).alloc o2) w1) : w1.heap[w.heap.size]? = some o1 ∧ w1.heap[w.heap.size + 1]? = some o2 := by
  obtain ⟨a, b⟩ := two_out (Below.refl ((w.alloc o1).alloc o2).heap.size ((w.alloc o1).alloc o2))
  exact ⟨h.block' a (hU.ne (Nat.le_refl _)), h.block' b (hU.ne (by omega))⟩

/-- A change of a node: what takes its place, whole; or a node of new types whose operands, which lay there, are to be rewritten into us. -/
def NdOut (fc : FuncId) (cs : Array Value) (U : Option Nat) (S0 : Nat) (St : Nat → World → Prop) (w : World) (fp : List Nat) (n' : Nat) (u : Tm) (e : Ending) (w' : World) : Prop :=
  (∃ v f, e = .returned (.tuple #[v, .bool false]) ∧ u.At w' v f ∧ Fresh w.heap.size w' f ∧ Bo U w w' ∧ St n' w') ∨
  (∃ (J : Nat → World → Prop) (k : Int) (nm : ByteArray) (num : Int) (ty fr : Ty) (lb : Int) (ts us : List Tm) (a3 : Option Addr) (c3 : Nat) (f3 : List Nat) (k1 : Int) (n1 : Nat) (a1 : Option Addr) (c1 : Nat) (k2 : Int) (n2 : Nat) (a2 : Option Addr) (c2 : Nat) (g1 g2 : List Nat),
    e = .returned (.tuple #[.agg #[.int .i64 k, .string nm, .int .i64 num, .int .i64 k1, .slice a1 n1 c1, .int .i64 k2, .slice a2 n2 c2, .int .i64 lb, .slice a3 ts.length c3], .bool true]) ∧ u = .mk k nm num ty fr lb us ∧ us.length = ts.length ∧ ts.length ≤ 1048576 ∧ nm.size ≤ 9223372036854775807 ∧
    SmAt w ts (.slice a3 ts.length c3) f3 ∧ (∀ b ∈ f3, b ∈ fp) ∧ Ty.At w' ty (.agg #[.int .i64 k1, .slice a1 n1 c1]) g1 ∧ Ty.At w' fr (.agg #[.int .i64 k2, .slice a2 n2 c2]) g2 ∧ Fresh w.heap.size w' (g1 ++ g2) ∧ Bo U w w' ∧
    J 0 w' ∧ (∀ w, J ts.length w → St n' w) ∧ (∀ n w w', J n w → Below S0 w w' → J n w') ∧
    ∀ (j : Nat) (h : j < ts.length) (h' : j < us.length) v fp w, ts[j].At w v fp → J j w → S0 ≤ w.heap.size → (∀ b ∈ fp, some b ≠ U) → Calls Tryd.prog 132 #[v, .func (.func fc) #[] cs] w (RoOut U J w (j + 1) us[j]))

set_option maxRecDepth 100000 in
set_option maxHeartbeats 4000000 in
theorem rewriteVia (fc : FuncId) (cs : Array Value) (U : Option Nat) (S0 : Nat) (St : Nat → World → Prop) (hfc : CallOkT fc) (hU : UL U S0) (hSt : ∀ n w w', St n w → Below S0 w w' → St n w') (t : Tm) (v : Value) (fp : List Nat) (w : World) (n' : Nat) (u : Tm)
    (hat : t.At w v fp) (hfp : ∀ b ∈ fp, some b ≠ U) (hS0 : S0 ≤ w.heap.size) (hcall : ∀ W, Below w.heap.size w W → Calls Tryd.prog fc (#[v] ++ cs) W (NdOut fc cs U S0 St W fp n' u)) :
    Calls Tryd.prog 132 #[v, .func (.func fc) #[] cs] w (RoOut U St w n' u) := by
  have hlt := hat.lt
  obtain ⟨e0, e1, e2, e3, e4, e5, e6, e7, e8, e9, e10, e11, e12, e13, e14, rfl⟩ := hat.agg
  have hb0 : Below w.heap.size w ((w.alloc (Obj.cells #[.int .i64 e0, .string e1, .int .i64 e2, .int .i64 e3, .slice e5 e4 e6, .int .i64 e7, .slice e9 e8 e10, .int .i64 e11, .slice e13 e12 e14] 35)).alloc (Obj.cells #[.int .i64 0, .string ByteArray.empty, .int .i64 0, .int .i64 0, .slice none 0 0, .int .i64 0, .slice none 0 0, .int .i64 0, .slice none 0 0] 35)) := ((Below.refl _ _).alloc (Nat.le_refl _) _).alloc (by simp) _
  have hs0 : (((w.alloc (Obj.cells #[.int .i64 e0, .string e1, .int .i64 e2, .int .i64 e3, .slice e5 e4 e6, .int .i64 e7, .slice e9 e8 e10, .int .i64 e11, .slice e13 e12 e14] 35)).alloc (Obj.cells #[.int .i64 0, .string ByteArray.empty, .int .i64 0, .int .i64 0, .slice none 0 0, .int .i64 0, .slice none 0 0, .int .i64 0, .slice none 0 0] 35))).heap.size = w.heap.size + 1 + 1 := by simp
  have HCALL := hid (hcall ((w.alloc (Obj.cells #[.int .i64 e0, .string e1, .int .i64 e2, .int .i64 e3, .slice e5 e4 e6, .int .i64 e7, .slice e9 e8 e10, .int .i64 e11, .slice e13 e12 e14] 35)).alloc (Obj.cells #[.int .i64 0, .string ByteArray.empty, .int .i64 0, .int .i64 0, .slice none 0 0, .int .i64 0, .slice none 0 0, .int .i64 0, .slice none 0 0] 35)) hb0)
  have HST := hid hSt
  have HB0 := hid hb0
  have HZ0 := hid hs0
  have HS0 := hid hS0
  have HU := hid (hU.mono hS0)
  have HU0 := hid hU
  have HFP := hid (And.intro hlt hfp)
  unfold CallOkT at hfc
  clear hat hb0 hs0 hcall hSt hS0 hU hlt hfp
  go_enter Tryd.func132, Tryd.ntmps132
  go_wp2_with fail
  refine HCALL.out.mono ?_
  rintro e w1 (⟨v', f', rfl, hu, hf, hbx, hst1⟩ | ⟨J, k, nm, num, ty, fr, lb, ts, us, a3, c3, f3, j1, m1, p1, d1, j2, m2, p2, d2, g1, g2, rfl, rfl, hlen, hszt, hnm, hsm, hf3, hv1, hv2, hg, hbx, hj0, hjn, hJ, hkid⟩)
  · obtain ⟨r0, r1, r2, r3, r4, r5, r6, r7, r8, r9, r10, r11, r12, r13, r14, rfl⟩ := hu.agg
    obtain ⟨hB, hZ⟩ := boxes_bo HU.out hbx
    obtain ⟨x0, x1, x2, x3, x4, x5, x6, x7, x8⟩ := cells9 hB
    obtain ⟨y0, y1, y2, y3, y4, y5, y6, y7, y8⟩ := cells9 hZ
    have xz := fun o => frozen_of_block (o := o) hB
    have yz := fun o => frozen_of_block (o := o) hZ
    have hM : w.heap.size + 1 < w1.heap.size := lt_of_block hZ
    rw [HZ0.out] at hf
    have ab : Above (w.heap.size + 1 + 1) w1 (put (put w1 w.heap.size 0 [.int .i64 r0, .string r1, .int .i64 r2, .int .i64 r3, .slice r5 r4 r6, .int .i64 r7, .slice r9 r8 r10, .int .i64 r11, .slice r13 r12 r14]) (w.heap.size + 1) 0 [.int .i64 r0, .string r1, .int .i64 r2, .int .i64 r3, .slice r5 r4 r6, .int .i64 r7, .slice r9 r8 r10, .int .i64 r11, .slice r13 r12 r14]) := ((Above.refl (w.heap.size + 1 + 1) w1).put (by omega)).put (by omega)
    have hbb : Below w.heap.size w1 (put (put w1 w.heap.size 0 [.int .i64 r0, .string r1, .int .i64 r2, .int .i64 r3, .slice r5 r4 r6, .int .i64 r7, .slice r9 r8 r10, .int .i64 r11, .slice r13 r12 r14]) (w.heap.size + 1) 0 [.int .i64 r0, .string r1, .int .i64 r2, .int .i64 r3, .slice r5 r4 r6, .int .i64 r7, .slice r9 r8 r10, .int .i64 r11, .slice r13 r12 r14]) := below_put (below_put (Below.refl w.heap.size w1) (Nat.le_refl _)) (by omega)
    have FIN := hid (show RoOut U St w n' u (.returned (.agg (Array.mk [.int .i64 r0, .string r1, .int .i64 r2, .int .i64 r3, .slice r5 r4 r6, .int .i64 r7, .slice r9 r8 r10, .int .i64 r11, .slice r13 r12 r14]))) (put (put w1 w.heap.size 0 [.int .i64 r0, .string r1, .int .i64 r2, .int .i64 r3, .slice r5 r4 r6, .int .i64 r7, .slice r9 r8 r10, .int .i64 r11, .slice r13 r12 r14]) (w.heap.size + 1) 0 [.int .i64 r0, .string r1, .int .i64 r2, .int .i64 r3, .slice r5 r4 r6, .int .i64 r7, .slice r9 r8 r10, .int .i64 r11, .slice r13 r12 r14]) from ⟨_, f', rfl, hu.above ab hf.ge, (hf.above ab (Nat.le_refl _)).mono (by omega), ((Bo.of_below HB0.out).trans hbx).trans_below hbb (Nat.le_refl _), HST.out _ _ _ hst1 (hbb.mono HS0.out)⟩)
    clear hB hZ hu hf hbx hst1 HB0 HZ0 HCALL hfc ab hbb
    go_wp2_with fail
    exact bodyPost_ret (v := .agg (Array.mk [.int .i64 r0, .string r1, .int .i64 r2, .int .i64 r3, .slice r5 r4 r6, .int .i64 r7, .slice r9 r8 r10, .int .i64 r11, .slice r13 r12 r14])) (by simp [results, Tryd.results132, go_sem, y0, y1, y2, y3, y4, y5, y6, y7, y8]) rfl FIN.out
  · obtain ⟨hB, hZ⟩ := boxes_bo HU.out hbx
    obtain ⟨x0, x1, x2, x3, x4, x5, x6, x7, x8⟩ := cells9 hB
    have xz := fun o => frozen_of_block (o := o) hB
    have hM : w.heap.size + 1 < w1.heap.size := lt_of_block hZ
    rw [HZ0.out] at hg
    have hb1 : Below w.heap.size w1 (put w1 w.heap.size 0 [.int .i64 k, .string nm, .int .i64 num, .int .i64 j1, .slice p1 m1 d1, .int .i64 j2, .slice p2 m2 d2, .int .i64 lb, .slice a3 ts.length c3]) := below_put (Below.refl w.heap.size w1) (Nat.le_refl _)
    have ab1 : Above (w.heap.size + 1 + 1) w1 (put w1 w.heap.size 0 [.int .i64 k, .string nm, .int .i64 num, .int .i64 j1, .slice p1 m1 d1, .int .i64 j2, .slice p2 m2 d2, .int .i64 lb, .slice a3 ts.length c3]) := (Above.refl (w.heap.size + 1 + 1) w1).put (by omega)
    have sz2 : (put w1 w.heap.size 0 [.int .i64 k, .string nm, .int .i64 num, .int .i64 j1, .slice p1 m1 d1, .int .i64 j2, .slice p2 m2 d2, .int .i64 lb, .slice a3 ts.length c3]).heap.size = w1.heap.size := size_put
    have hbw : Bo U w (put w1 w.heap.size 0 [.int .i64 k, .string nm, .int .i64 num, .int .i64 j1, .slice p1 m1 d1, .int .i64 j2, .slice p2 m2 d2, .int .i64 lb, .slice a3 ts.length c3]) := ((Bo.of_below HB0.out).trans hbx).trans_below hb1 (Nat.le_refl _)
    have hB2 : (put w1 w.heap.size 0 [.int .i64 k, .string nm, .int .i64 num, .int .i64 j1, .slice p1 m1 d1, .int .i64 j2, .slice p2 m2 d2, .int .i64 lb, .slice a3 ts.length c3]).heap[w.heap.size]? = some (.cells (Array.mk [.int .i64 k, .string nm, .int .i64 num, .int .i64 j1, .slice p1 m1 d1, .int .i64 j2, .slice p2 m2 d2, .int .i64 lb, .slice a3 ts.length c3]) 35 (0, 0)) := by
      rw [heap_put hB]
      simp only [putA, List.setIfInBounds_toArray, List.set]
    have hZ2 : (put w1 w.heap.size 0 [.int .i64 k, .string nm, .int .i64 num, .int .i64 j1, .slice p1 m1 d1, .int .i64 j2, .slice p2 m2 d2, .int .i64 lb, .slice a3 ts.length c3]).heap[w.heap.size + 1]? = some (Obj.cells #[.int .i64 0, .string ByteArray.empty, .int .i64 0, .int .i64 0, .slice none 0 0, .int .i64 0, .slice none 0 0, .int .i64 0, .slice none 0 0] 35) := (heap_put_ne (by omega)).trans hZ
    have hsm1 : SmAt w1 ts (.slice a3 ts.length c3) f3 := hbx.sm hsm fun b hb => HFP.out.2 b (hf3 b hb)
    have hsm2 : SmAt (put w1 w.heap.size 0 [.int .i64 k, .string nm, .int .i64 num, .int .i64 j1, .slice p1 m1 d1, .int .i64 j2, .slice p2 m2 d2, .int .i64 lb, .slice a3 ts.length c3]) ts (.slice a3 ts.length c3) f3 := hsm1.congr fun b hb o => World.cell?_of_block (w := w1) (a := ⟨b, o, none⟩) (heap_put_ne (show b ≠ w.heap.size by have := HFP.out.1 b (hf3 b hb); omega))
    have HKW := hid (rewriteKids_of fc cs U S0 (w.heap.size + 1 + 1) J HU0.out (HU.out.mono (by omega)) hJ ts us hlen hszt hkid k nm num ty fr lb j1 m1 p1 d1 j2 m2 p2 d2 a3 c3 g1 g2 f3 (put w1 w.heap.size 0 [.int .i64 k, .string nm, .int .i64 num, .int .i64 j1, .slice p1 m1 d1, .int .i64 j2, .slice p2 m2 d2, .int .i64 lb, .slice a3 ts.length c3]) hnm (hv1.above ab1 (fun b hb => hg.ge b (by simp [hb]))) (hv2.above ab1 (fun b hb => hg.ge b (by simp [hb]))) (hg.above ab1 (Nat.le_refl _)) (by rw [sz2]; omega) hsm2 (fun b hb => HFP.out.2 b (hf3 b hb)) (hJ _ _ _ hj0 (hb1.mono HS0.out)) (Nat.le_trans HS0.out hbw.size))
    have HW2 := hid (And.intro hB2 (And.intro hZ2 (And.intro hbw sz2)))
    have HJN := hid hjn
    clear hB hZ hv1 hv2 hg hbx hj0 hjn hJ hkid hb1 ab1 hB2 hZ2 hbw sz2 hsm hsm1 hsm2 hf3 hlen hszt hnm HB0 HZ0 HCALL hfc HFP
    go_upto_region 2 with (fail)
    generalize hW2 : (((((((((w1.setCell ⟨w.heap.size, 0, none⟩ (.int .i64 k)).setCell ⟨w.heap.size, 1, none⟩ (.string nm)).setCell ⟨w.heap.size, 2, none⟩ (.int .i64 num)).setCell ⟨w.heap.size, 3, none⟩ (.int .i64 j1)).setCell ⟨w.heap.size, 4, none⟩ (.slice p1 m1 d1)).setCell ⟨w.heap.size, 5, none⟩ (.int .i64 j2)).setCell ⟨w.heap.size, 6, none⟩ (.slice p2 m2 d2)).setCell ⟨w.heap.size, 7, none⟩ (.int .i64 lb)).setCell ⟨w.heap.size, 8, none⟩ (.slice a3 ts.length c3)) = W2
    have e2 : W2 = put w1 w.heap.size 0 [.int .i64 k, .string nm, .int .i64 num, .int .i64 j1, .slice p1 m1 d1, .int .i64 j2, .slice p2 m2 d2, .int .i64 lb, .slice a3 ts.length c3] := by rw [← hW2]; simp only [put, Nat.zero_add, Nat.reduceAdd]
    rw [← e2] at HKW HW2
    clear x0 x1 x2 x3 x4 x5 x6 x7 x8 xz e2 hW2
    obtain ⟨x0, x1, x2, x3, x4, x5, x6, x7, x8⟩ := cells9 HW2.out.1
    have hM2 : w.heap.size + 1 < W2.heap.size := lt_of_block HW2.out.2.1
    go_wp2_with fail
    refine HKW.out.mono ?_
    rintro e w3 ⟨v', f', rfl, hat3, hf3', hbx3, hst3⟩
    obtain ⟨r0, r1, r2, r3, r4, r5, r6, r7, r8, r9, r10, r11, r12, r13, r14, rfl⟩ := hat3.agg
    have hZ3 := hbx3.block' HW2.out.2.1 (HU.out.ne (by omega))
    obtain ⟨y0, y1, y2, y3, y4, y5, y6, y7, y8⟩ := cells9 hZ3
    have yz := fun o => frozen_of_block (o := o) hZ3
    have hM3 : w.heap.size + 1 < w3.heap.size := lt_of_block hZ3
    have ab3 : Above (w.heap.size + 1 + 1) w3 (put w3 (w.heap.size + 1) 0 [.int .i64 r0, .string r1, .int .i64 r2, .int .i64 r3, .slice r5 r4 r6, .int .i64 r7, .slice r9 r8 r10, .int .i64 r11, .slice r13 r12 r14]) := (Above.refl _ _).put (Nat.lt_succ_self _)
    have hb3 : Below w.heap.size w3 (put w3 (w.heap.size + 1) 0 [.int .i64 r0, .string r1, .int .i64 r2, .int .i64 r3, .slice r5 r4 r6, .int .i64 r7, .slice r9 r8 r10, .int .i64 r11, .slice r13 r12 r14]) := below_put (Below.refl w.heap.size w3) (by omega)
    have FIN := hid (show RoOut U St w n' (.mk k nm num ty fr lb us) (.returned (.agg (Array.mk [.int .i64 r0, .string r1, .int .i64 r2, .int .i64 r3, .slice r5 r4 r6, .int .i64 r7, .slice r9 r8 r10, .int .i64 r11, .slice r13 r12 r14]))) (put w3 (w.heap.size + 1) 0 [.int .i64 r0, .string r1, .int .i64 r2, .int .i64 r3, .slice r5 r4 r6, .int .i64 r7, .slice r9 r8 r10, .int .i64 r11, .slice r13 r12 r14]) from
      ⟨_, f', rfl, hat3.above ab3 hf3'.ge, (hf3'.above ab3 (Nat.le_refl _)).mono (by omega), (HW2.out.2.2.1.trans hbx3).trans_below hb3 (Nat.le_refl _), HST.out _ _ _ (HJN.out _ hst3) (hb3.mono HS0.out)⟩)
    clear hat3 hf3' hbx3 hst3 hZ3 ab3 hb3 x0 x1 x2 x3 x4 x5 x6 x7 x8 HW2 HKW
    go_wp2_with fail
    exact bodyPost_ret (v := .agg (Array.mk [.int .i64 r0, .string r1, .int .i64 r2, .int .i64 r3, .slice r5 r4 r6, .int .i64 r7, .slice r9 r8 r10, .int .i64 r11, .slice r13 r12 r14])) (by simp [results, Tryd.results132, go_sem, y0, y1, y2, y3, y4, y5, y6, y7, y8]) rfl FIN.out

/-- What the rewriting of a term says, where the block U may be written. -/
def RwOut (U : Nat) (St : Nat → World → Prop) (w : World) (n' : Nat) (u : Tm) (e : Ending) (w' : World) : Prop :=
  ∃ v' f', e = .returned v' ∧ u.At w' v' f' ∧ Fresh w.heap.size w' f' ∧ Bx U w w' ∧ St n' w'

/-- What a change of a node says. -/
def ChOut (U : Nat) (St : Nat → World → Prop) (w : World) (n' : Nat) (k : Int) (nm : ByteArray) (num lb : Int) (s : Value) (e : Ending) (w' : World) : Tm ⊕ (Ty × Ty) → Prop
  | .inl u => ∃ v f, e = .returned (.tuple #[v, .bool false]) ∧ u.At w' v f ∧ Fresh w.heap.size w' f ∧ Bx U w w' ∧ St n' w'
  | .inr x => ∃ k1 n1 a1 c1 k2 n2 a2 c2 g1 g2, e = .returned (.tuple #[.agg #[.int .i64 k, .string nm, .int .i64 num, .int .i64 k1, .slice a1 n1 c1, .int .i64 k2, .slice a2 n2 c2, .int .i64 lb, s], .bool true]) ∧
      Ty.At w' x.1 (.agg #[.int .i64 k1, .slice a1 n1 c1]) g1 ∧ Ty.At w' x.2 (.agg #[.int .i64 k2, .slice a2 n2 c2]) g2 ∧ Fresh w.heap.size w' (g1 ++ g2) ∧ Bx U w w' ∧ St n' w'

def ChC (fc : FuncId) (cs : Array Value) (U S0 : Nat) (St : Nat → World → Prop) (Pre : Nat → Tm → Prop) (nx : Nat → Tm → Nat) (ch : Nat → Tm → Tm ⊕ (Ty × Ty)) : Prop :=
  ∀ n k nm num ty fr lb ts k1 n1 a1 c1 k2 n2 a2 c2 a3 c3 fp w, (Tm.mk k nm num ty fr lb ts).At w (.agg #[.int .i64 k, .string nm, .int .i64 num, .int .i64 k1, .slice a1 n1 c1, .int .i64 k2, .slice a2 n2 c2, .int .i64 lb, .slice a3 ts.length c3]) fp → Pre n (.mk k nm num ty fr lb ts) → St n w → S0 ≤ w.heap.size → (∀ b ∈ fp, b ≠ U) →
    Calls Tryd.prog fc (#[(.agg #[.int .i64 k, .string nm, .int .i64 num, .int .i64 k1, .slice a1 n1 c1, .int .i64 k2, .slice a2 n2 c2, .int .i64 lb, .slice a3 ts.length c3])] ++ cs) w (fun e w' => ChOut U St w (nx n (.mk k nm num ty fr lb ts)) k nm num lb (.slice a3 ts.length c3) e w' (ch n (.mk k nm num ty fr lb ts)))

def RwC (fc : FuncId) (cs : Array Value) (U S0 : Nat) (St : Nat → World → Prop) (Pre : Nat → Tm → Prop) (nx : Nat → Tm → Nat) (ch : Nat → Tm → Tm ⊕ (Ty × Ty)) (t : Tm) : Prop :=
  ∀ n v fp w, t.At w v fp → Pre n t → St n w → S0 ≤ w.heap.size → (∀ b ∈ fp, b ≠ U) → t.sz ≤ 1048576 →
    Calls Tryd.prog 132 #[v, .func (.func fc) #[] cs] w (RwOut U St w (rwN nx ch n t) (rwT nx ch n t))

theorem rewrite_of (fc : FuncId) (cs : Array Value) (U S0 : Nat) (St : Nat → World → Prop) (Pre : Nat → Tm → Prop) (nx : Nat → Tm → Nat) (ch : Nat → Tm → Tm ⊕ (Ty × Ty)) (hfc : CallOkT fc) (hU : U < S0) (hCh : ChC fc cs U S0 St Pre nx ch)
    (hSt : ∀ n w w', St n w → Below S0 w w' → St n w') (k : Int) (nm : ByteArray) (num : Int) (ty fr : Ty) (lb : Int) (ts : List Tm)
    (hPre : ∀ n x, Pre n (.mk k nm num ty fr lb ts) → ch n (.mk k nm num ty fr lb ts) = .inr x → ∀ j (h : j < ts.length), Pre (rwNL nx ch (nx n (.mk k nm num ty fr lb ts)) (ts.take j)) ts[j])
    (ih : ∀ t ∈ ts, RwC fc cs U S0 St Pre nx ch t) : RwC fc cs U S0 St Pre nx ch (.mk k nm num ty fr lb ts) := by
  intro n v fp w hat hpre hst hS0 hfp hsz
  have hne : ∀ b ∈ fp, some b ≠ some U := fun b hb e => hfp b hb (Option.some.inj e)
  refine rewriteVia fc cs (some U) S0 St hfc (fun u e => by cases e; exact hU) hSt (.mk k nm num ty fr lb ts) v fp w _ _ hat hne hS0 fun W hW => ?_
  have hatW := hat.below hW
  have hl := hat.lt
  obtain ⟨k1, n1, a1, c1, k2, n2, a2, c2, a3, c3, f1, f2, f3, rfl, hnm, ht1, ht2, rfl, hs⟩ := hat.parts
  refine (hCh n k nm num ty fr lb ts k1 n1 a1 c1 k2 n2 a2 c2 a3 c3 _ W hatW hpre (hSt _ _ _ hst (hW.mono hS0)) (Nat.le_trans hS0 hW.size) hfp).mono ?_
  intro e w' h
  have hTN : rwT nx ch n (.mk k nm num ty fr lb ts) = match ch n (.mk k nm num ty fr lb ts) with | .inl u => u | .inr x => .mk k nm num x.1 x.2 lb (rwL nx ch (nx n (.mk k nm num ty fr lb ts)) ts) := by rw [rwT]
  have hNN : rwN nx ch n (.mk k nm num ty fr lb ts) = match ch n (.mk k nm num ty fr lb ts) with | .inl _ => nx n (.mk k nm num ty fr lb ts) | .inr _ => rwNL nx ch (nx n (.mk k nm num ty fr lb ts)) ts := by rw [rwN]
  rw [hTN, hNN]
  clear hTN hNN
  generalize hn1 : nx n (.mk k nm num ty fr lb ts) = nn at *
  cases hch : ch n (.mk k nm num ty fr lb ts) with
  | inl u =>
    rw [hch] at h
    exact .inl h
  | inr x =>
    rw [hch] at h
    have hPK := hPre n x hpre hch
    rw [hn1] at hPK
    obtain ⟨j1, m1, p1, d1, j2, m2, p2, d2, g1, g2, rfl, hv1, hv2, hg, hbx, hst1⟩ := h
    have hszs : ts.length + szML ts ≤ 1048576 := by simp only [Tm.sz] at hsz; omega
    refine .inr ⟨fun j w' => St (rwNL nx ch nn (ts.take j)) w', k, nm, num, x.1, x.2, lb, ts, rwL nx ch nn ts, a3, c3, f3, j1, m1, p1, d1, j2, m2, p2, d2, g1, g2, rfl, rfl, rwL_len nx ch ts nn, by omega, hnm, hs.below hW, fun b hb => by simp [hb], hv1, hv2, hg, hbx, ?_, ?_, fun _ _ _ h hb => hSt _ _ _ h hb, ?_⟩
    · simpa only [List.take_zero, rwNL] using hst1
    · intro w h
      rw [List.take_of_length_le (Nat.le_refl _)] at h
      exact h
    · intro j h h' v fp w hat hj hs0 hfp'
      have hk := ih ts[j] (List.getElem_mem h) (rwNL nx ch nn (ts.take j)) v fp w hat (hPK j h) hj hs0 (fun b hb e => hfp' b hb (by rw [e])) (by have := sz_mem (List.getElem_mem h); omega)
      rw [← rwL_get nx ch ts nn j h h', ← rwNL_take nx ch ts nn j h] at hk
      exact hk
end Go.Proofs.YtffmpjcjmffdeaaDoor

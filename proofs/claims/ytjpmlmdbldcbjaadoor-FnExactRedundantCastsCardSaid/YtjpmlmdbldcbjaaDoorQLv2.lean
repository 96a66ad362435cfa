/- The program's rewriteFromLeaves, over any change of nodes that has a contract. -/
import Derived.Test.YtjpmlmdbldcbjaaDoorQG25
import Derived.Test.YtjpmlmdbldcbjaaDoorQG1
namespace Go.Proofs.YtjpmlmdbldcbjaaDoor
open Go.RowKit

/-- What the change of a node says whose memory is new from B on. -/
def LfOut (U : Option Nat) (St : Nat → World → Prop) (B : Nat) (w : World) (n' : Nat) (u : Tm) (e : Ending) (w' : World) : Prop :=
  ∃ v' f', e = .returned v' ∧ u.At w' v' f' ∧ Fresh B w' f' ∧ Bo U w w' ∧ St n' w'

def LfC (fc : FuncId) (cs : Array Value) (U : Option Nat) (S0 : Nat) (St : Nat → World → Prop) (nx : Nat → Int → Nat) (ch : Nat → Tm → Tm) : Prop :=
  ∀ n t v fp B w, t.At w v fp → Fresh B w fp → S0 ≤ B → B ≤ w.heap.size → gdM t → n ≤ 4194304 → St n w → Calls Tryd.prog fc (#[v] ++ cs) w (LfOut U St B w (nx n (kdM t)) (ch n t))

def LeafC (fc : FuncId) (cs : Array Value) (U : Option Nat) (S0 : Nat) (St : Nat → World → Prop) (nx : Nat → Int → Nat) (ch : Nat → Tm → Tm) (t : Tm) : Prop :=
  ∀ n v fp w, t.At w v fp → gdM t → okT t → n + t.sz + 1 ≤ 4194304 → t.sz ≤ 1048576 → St n w → S0 ≤ w.heap.size → (∀ b ∈ fp, some b ≠ U) → Calls Tryd.prog 39 #[v, .func (.func fc) #[] cs] w (RoOut U St w (lvN nx n t) (lvT nx ch n t))

theorem callOk_kid : CallOkT 62 := fun _ _ => by kernel_rfl

theorem Bo.three {U : Option Nat} {w w1 : World} {o1 o2 o3 : Obj} (hU : UL U w.heap.size) (h : Bo U (((w.alloc o1).alloc o2).alloc o3) w1) : w1.heap[w.heap.size]? = some o1 ∧ w1.heap[w.heap.size + 1]? = some o2 ∧ w1.heap[w.heap.size + 1 + 1]? = some o3 := by
  obtain ⟨a, b, c⟩ := three_out (Below.refl (((w.alloc o1).alloc o2).alloc o3).heap.size (((w.alloc o1).alloc o2).alloc o3))
  exact ⟨h.block' a (hU.ne (Nat.le_refl _)), h.block' b (hU.ne (by omega)), h.block' c (hU.ne (by omega))⟩

set_option linter.unusedVariables false in
set_option linter.unusedSimpArgs false in
set_option maxRecDepth 100000 in
set_option maxHeartbeats 4000000 in
/-- An operand is rewritten by the closure that holds the change. -/
theorem leafKid (fc : FuncId) (cs : Array Value) (U : Option Nat) (S0 : Nat) (St : Nat → World → Prop) (nx : Nat → Int → Nat) (ch : Nat → Tm → Tm) (hU : UL U S0) (hSt : ∀ n w w', St n w → Below S0 w w' → St n w') (t : Tm) (hC : LeafC fc cs U S0 St nx ch t)
    (n : Nat) (v : Value) (fp : List Nat) (w : World) (M : Nat) (hat : t.At w v fp) (hg : gdM t) (ho : okT t) (hn : n + t.sz + 1 ≤ 4194304) (hz : t.sz ≤ 1048576) (hst : St n w) (hS0 : S0 ≤ w.heap.size) (hfp : ∀ b ∈ fp, some b ≠ U) (hM : w.heap[M]? = some (Obj.cells #[.func (.func fc) #[] cs] 45)) (hMU : some M ≠ U) :
    Calls Tryd.prog 62 #[v, .pointer (some ⟨M, 0, none⟩)] w (fun e w' => ∃ v' f', e = .returned (.tuple #[v', .bool false]) ∧ (lvT nx ch n t).At w' v' f' ∧ Fresh w.heap.size w' f' ∧ Bo U w w' ∧ St (lvN nx n t) w' ∧ w'.heap[M]? = some (Obj.cells #[.func (.func fc) #[] cs] 45)) := by
  obtain ⟨p0, p1, p2, p3, p4, p5, p6, p7, p8, p9, p10, p11, p12, p13, p14, rfl⟩ := hat.agg
  have hb0 : Below w.heap.size w ((w.alloc (Obj.cells #[.int .i64 p0, .string p1, .int .i64 p2, .int .i64 p3, .slice p5 p4 p6, .int .i64 p7, .slice p9 p8 p10, .int .i64 p11, .slice p13 p12 p14] 34)).alloc (Obj.cells #[.int .i64 0, .string ⟨#[]⟩, .int .i64 0, .int .i64 0, .slice none 0 0, .int .i64 0, .slice none 0 0, .int .i64 0, .slice none 0 0] 34)) := ((Below.refl _ _).alloc (Nat.le_refl _) _).alloc (by simp) _
  have hs0 : ((w.alloc (Obj.cells #[.int .i64 p0, .string p1, .int .i64 p2, .int .i64 p3, .slice p5 p4 p6, .int .i64 p7, .slice p9 p8 p10, .int .i64 p11, .slice p13 p12 p14] 34)).alloc (Obj.cells #[.int .i64 0, .string ⟨#[]⟩, .int .i64 0, .int .i64 0, .slice none 0 0, .int .i64 0, .slice none 0 0, .int .i64 0, .slice none 0 0] 34)).heap.size = w.heap.size + 1 + 1 := by simp
  have HC := hid (hC n _ fp _ (hat.below hb0) hg ho hn hz (hSt _ _ _ hst (hb0.mono hS0)) (by rw [hs0]; omega) hfp)
  have HM := hid (blk hM hb0)
  have hMl := lt_of_block hM
  obtain ⟨hB0, hZ0⟩ := two_out (Below.refl ((w.alloc (Obj.cells #[.int .i64 p0, .string p1, .int .i64 p2, .int .i64 p3, .slice p5 p4 p6, .int .i64 p7, .slice p9 p8 p10, .int .i64 p11, .slice p13 p12 p14] 34)).alloc (Obj.cells #[.int .i64 0, .string ⟨#[]⟩, .int .i64 0, .int .i64 0, .slice none 0 0, .int .i64 0, .slice none 0 0, .int .i64 0, .slice none 0 0] 34)).heap.size ((w.alloc (Obj.cells #[.int .i64 p0, .string p1, .int .i64 p2, .int .i64 p3, .slice p5 p4 p6, .int .i64 p7, .slice p9 p8 p10, .int .i64 p11, .slice p13 p12 p14] 34)).alloc (Obj.cells #[.int .i64 0, .string ⟨#[]⟩, .int .i64 0, .int .i64 0, .slice none 0 0, .int .i64 0, .slice none 0 0, .int .i64 0, .slice none 0 0] 34)))
  obtain ⟨x0, x1, x2, x3, x4, x5, x6, x7, x8⟩ := cells9 hB0
  have xM : ((w.alloc (Obj.cells #[.int .i64 p0, .string p1, .int .i64 p2, .int .i64 p3, .slice p5 p4 p6, .int .i64 p7, .slice p9 p8 p10, .int .i64 p11, .slice p13 p12 p14] 34)).alloc (Obj.cells #[.int .i64 0, .string ⟨#[]⟩, .int .i64 0, .int .i64 0, .slice none 0 0, .int .i64 0, .slice none 0 0, .int .i64 0, .slice none 0 0] 34)).cell? ⟨M, 0, none⟩ = some (.func (.func fc) #[] cs) := by rw [cell_of_block HM.out]; rfl
  have HB0 := hid hb0
  have HS0 := hid hs0
  have HSS := hid (And.intro hU (And.intro hS0 hMU))
  have HST := hid hSt
  clear hat hb0 hs0 hC hSt hst hS0 hfp hM hB0 hZ0 hU hMU hg ho hn hz
  go_enter Tryd.func62, Tryd.ntmps62
  go_wp2_with fail
  refine HC.out.mono ?_
  rintro e w1 ⟨v', f', rfl, hu, hf, hbx, hst1⟩
  obtain ⟨r0, r1, r2, r3, r4, r5, r6, r7, r8, r9, r10, r11, r12, r13, r14, rfl⟩ := hu.agg
  obtain ⟨hB, hZ⟩ := boxes_bo (HSS.out.1.mono HSS.out.2.1) hbx
  obtain ⟨y0, y1, y2, y3, y4, y5, y6, y7, y8⟩ := cells9 hZ
  have yz := fun o => frozen_of_block (o := o) hZ
  have hM1 : w.heap.size + 1 < w1.heap.size := lt_of_block hZ
  have hMk := hbx.block' HM.out HSS.out.2.2
  rw [HS0.out] at hf
  have ab : Above (w.heap.size + 1 + 1) w1 (put w1 (w.heap.size + 1) 0 [.int .i64 r0, .string r1, .int .i64 r2, .int .i64 r3, .slice r5 r4 r6, .int .i64 r7, .slice r9 r8 r10, .int .i64 r11, .slice r13 r12 r14]) := (Above.refl (w.heap.size + 1 + 1) w1).put (by omega)
  have hbb : Below w.heap.size w1 (put w1 (w.heap.size + 1) 0 [.int .i64 r0, .string r1, .int .i64 r2, .int .i64 r3, .slice r5 r4 r6, .int .i64 r7, .slice r9 r8 r10, .int .i64 r11, .slice r13 r12 r14]) := below_put (Below.refl w.heap.size w1) (by omega)
  have FIN := hid (And.intro (hu.above ab hf.ge) (And.intro ((hf.above ab (Nat.le_refl _)).mono (B' := w.heap.size) (by omega)) (And.intro (((Bo.of_below HB0.out).trans hbx).trans_below hbb (Nat.le_refl _)) (And.intro (HST.out _ _ _ hst1 (hbb.mono HSS.out.2.1)) ((heap_put_ne (b := M) (M := w.heap.size + 1) (vs := [.int .i64 r0, .string r1, .int .i64 r2, .int .i64 r3, .slice r5 r4 r6, .int .i64 r7, .slice r9 r8 r10, .int .i64 r11, .slice r13 r12 r14]) (o := 0) (by omega)).trans hMk)))))
  clear x0 x1 x2 x3 x4 x5 x6 x7 x8 xM hB hZ hu hf hbx hst1 HB0 HS0 HC HM hMk ab hbb
  go_wp2_with fail
  exact bodyPost_ret (v := .tuple #[.agg #[.int .i64 r0, .string r1, .int .i64 r2, .int .i64 r3, .slice r5 r4 r6, .int .i64 r7, .slice r9 r8 r10, .int .i64 r11, .slice r13 r12 r14], .bool false]) (by simp [results, Tryd.results62, go_sem, y0, y1, y2, y3, y4, y5, y6, y7, y8]) rfl ⟨_, f', rfl, FIN.out⟩

set_option linter.unusedVariables false in
set_option linter.unusedSimpArgs false in
set_option maxRecDepth 100000 in
set_option maxHeartbeats 8000000 in
theorem leaves_of (fc : FuncId) (cs : Array Value) (U : Option Nat) (S0 : Nat) (St : Nat → World → Prop) (nx : Nat → Int → Nat) (ch : Nat → Tm → Tm) (hfc : CallOkT fc) (hU : UL U S0) (hSt : ∀ n w w', St n w → Below S0 w w' → St n w') (hnx : ∀ n k, nx n k ≤ n + 1) (hgd : ∀ n t, gdM t → gdM (ch n t))
    (hch : LfC fc cs U S0 St nx ch) (k : Int) (nm : ByteArray) (num : Int) (ty fr : Ty) (lb : Int) (ts : List Tm) (ih : ∀ t ∈ ts, LeafC fc cs U S0 St nx ch t) : LeafC fc cs U S0 St nx ch (.mk k nm num ty fr lb ts) := by
  intro n v fp w hat hg ho hn hz hst hS0 hfp
  have hltA := hat.lt
  obtain ⟨k1, n1, a1, c1, k2, n2, a2, c2, a3, c3, f1, f2, f3, rfl, hnm, ht1, ht2, rfl, hs⟩ := hat.parts
  have hb0 : Below w.heap.size w (((w.alloc (Obj.cells #[.int .i64 k, .string nm, .int .i64 num, .int .i64 k1, .slice a1 n1 c1, .int .i64 k2, .slice a2 n2 c2, .int .i64 lb, .slice a3 ts.length c3] 34)).alloc (Obj.cells #[.func (.func fc) #[] cs] 45)).alloc (Obj.cells #[.int .i64 0, .string ByteArray.empty, .int .i64 0, .int .i64 0, .slice none 0 0, .int .i64 0, .slice none 0 0, .int .i64 0, .slice none 0 0] 34)) := (((Below.refl _ _).alloc (Nat.le_refl _) _).alloc (by simp) _).alloc (by simp; omega) _
  have hs0 : (((w.alloc (Obj.cells #[.int .i64 k, .string nm, .int .i64 num, .int .i64 k1, .slice a1 n1 c1, .int .i64 k2, .slice a2 n2 c2, .int .i64 lb, .slice a3 ts.length c3] 34)).alloc (Obj.cells #[.func (.func fc) #[] cs] 45)).alloc (Obj.cells #[.int .i64 0, .string ByteArray.empty, .int .i64 0, .int .i64 0, .slice none 0 0, .int .i64 0, .slice none 0 0, .int .i64 0, .slice none 0 0] 34)).heap.size = w.heap.size + 1 + 1 + 1 := by simp
  simp only [gdM] at hg
  simp only [okT] at ho
  have hszs : ts.length + szML ts ≤ 1048576 := by simp only [Tm.sz] at hz; omega
  have hns : n + ts.length + szML ts + 1 ≤ 4194304 := by simp only [Tm.sz] at hn; omega
  have HLN := hid (show lvN nx n (.mk k nm num ty fr lb ts) = nx (lvNL nx n ts) k by rw [lvN])
  have HLT := hid (show lvT nx ch n (.mk k nm num ty fr lb ts) = ch (lvNL nx n ts) (.mk k nm num ty fr lb (lvL nx ch n ts)) by rw [lvT])
  have hUw := hU.mono hS0
  have HCP := hid (copyNode_any k nm num ty fr lb a3 ts.length c3 k1 k2 n1 n2 c1 c2 a1 a2 f1 f2 (((w.alloc (Obj.cells #[.int .i64 k, .string nm, .int .i64 num, .int .i64 k1, .slice a1 n1 c1, .int .i64 k2, .slice a2 n2 c2, .int .i64 lb, .slice a3 ts.length c3] 34)).alloc (Obj.cells #[.func (.func fc) #[] cs] 45)).alloc (Obj.cells #[.int .i64 0, .string ByteArray.empty, .int .i64 0, .int .i64 0, .slice none 0 0, .int .i64 0, .slice none 0 0, .int .i64 0, .slice none 0 0] 34)) (ht1.below hb0) (ht2.below hb0) ho.1 ho.2.1)
  -- the operands' change
  have HIH := hid (fun (j : Nat) (h : j < ts.length) (h' : j < (lvL nx ch n ts).length) (v : Value) (fp : List Nat) (w' : World) (hat : ts[j].At w' v fp) (hj : St (lvNL nx n (ts.take j)) w' ∧ w'.heap[w.heap.size + 1]? = some (Obj.cells #[.func (.func fc) #[] cs] 45)) (hS : w.heap.size + 1 + 1 ≤ w'.heap.size) (hf : ∀ b ∈ fp, some b ≠ U) => (show Calls Tryd.prog 74 #[v, .func (.func 62) #[] #[.pointer (some ⟨w.heap.size + 1, 0, none⟩)]] w' (RoOut U (fun j w' => St (lvNL nx n (ts.take j)) w' ∧ w'.heap[w.heap.size + 1]? = some (Obj.cells #[.func (.func fc) #[] cs] 45)) w' (j + 1) (lvL nx ch n ts)[j]) from by
    refine rewriteVia 62 #[.pointer (some ⟨w.heap.size + 1, 0, none⟩)] U (w.heap.size + 1 + 1) (fun j w' => St (lvNL nx n (ts.take j)) w' ∧ w'.heap[w.heap.size + 1]? = some (Obj.cells #[.func (.func fc) #[] cs] 45)) callOk_kid (hUw.mono (by omega)) (fun m a b h hb => ⟨hSt _ _ _ h.1 (hb.mono (by omega)), (hb.block _ (by omega)).trans h.2⟩) ts[j] v fp w' (j + 1) _ hat hf hS fun W hW => ?_
    refine (leafKid fc cs U S0 St nx ch hU hSt ts[j] (ih _ (List.getElem_mem h)) (lvNL nx n (ts.take j)) v fp W (w.heap.size + 1) (hat.below hW) (gdL_mem hg.2 _ (List.getElem_mem h)) (okL_get ho.2.2 j h) (by have := lvNL_take_le nx hnx ts n j h; omega) (by have := sz_mem (List.getElem_mem h); omega) (hSt _ _ _ hj.1 (hW.mono (by omega))) (by have := hW.size; omega) hf (blk hj.2 hW) (hUw.ne (by omega))).mono ?_
    rintro e w2 ⟨v', f', rfl, q1, q2, q3, q4, q5⟩
    refine .inl ⟨v', f', rfl, ?_, q2, q3, ?_, q5⟩
    · rw [lvL_get nx ch ts n j h h']; exact q1
    · rw [lvNL_take nx ts n j h]; exact q4))
  have HNS := hid (lvNL_le nx hnx ts n)
  have HGD := hid (show gdM (.mk k nm num ty fr lb (lvL nx ch n ts)) from by simp only [gdM, lvL_len]; exact ⟨hg.1, gdL_lv nx ch hgd ts n hg.2⟩)
  have HLL := hid (lvL_len nx ch ts n)
  have HUW := hid (And.intro hU (And.intro hUw hS0))
  have HST := hid hSt
  have HST0 := hid hst
  have HSM := hid hs
  have HFP := hid (And.intro hltA hfp)
  have HB0 := hid hb0
  have HZ0 := hid hs0
  have HCH0 := hid hch
  have HNM := hid hnm
  unfold CallOkT at hfc
  obtain ⟨hB0, hC0, hZ0⟩ := three_out (Below.refl (((w.alloc (Obj.cells #[.int .i64 k, .string nm, .int .i64 num, .int .i64 k1, .slice a1 n1 c1, .int .i64 k2, .slice a2 n2 c2, .int .i64 lb, .slice a3 ts.length c3] 34)).alloc (Obj.cells #[.func (.func fc) #[] cs] 45)).alloc (Obj.cells #[.int .i64 0, .string ByteArray.empty, .int .i64 0, .int .i64 0, .slice none 0 0, .int .i64 0, .slice none 0 0, .int .i64 0, .slice none 0 0] 34)).heap.size (((w.alloc (Obj.cells #[.int .i64 k, .string nm, .int .i64 num, .int .i64 k1, .slice a1 n1 c1, .int .i64 k2, .slice a2 n2 c2, .int .i64 lb, .slice a3 ts.length c3] 34)).alloc (Obj.cells #[.func (.func fc) #[] cs] 45)).alloc (Obj.cells #[.int .i64 0, .string ByteArray.empty, .int .i64 0, .int .i64 0, .slice none 0 0, .int .i64 0, .slice none 0 0, .int .i64 0, .slice none 0 0] 34)))
  obtain ⟨x0, x1, x2, x3, x4, x5, x6, x7, x8⟩ := cells9 hB0
  clear hat hb0 hs0 hch hSt hst hS0 hU hUw hfp hltA hs ht1 ht2 hnm hg ho hn hz ih hgd hnx hB0 hC0 hZ0
  go_enter Tryd.func39, Tryd.ntmps39
  go_wp2_with fail
  refine HCP.out.mono ?_
  rintro e w1 ⟨j1, m1, p1, d1, j2, m2, p2, d2, g1, g2, rfl, hv1, hv2, hg, hb1⟩
  obtain ⟨hB, hC1, hZ⟩ := three_out hb1
  rw [HZ0.out] at hg
  clear x0 x1 x2 x3 x4 x5 x6 x7 x8
  obtain ⟨x0, x1, x2, x3, x4, x5, x6, x7, x8⟩ := cells9 hB
  have xz := fun o => frozen_of_block (o := o) hB
  have hM : w.heap.size + 1 + 1 < w1.heap.size := lt_of_block hZ
  have hb1p : Below w.heap.size w1 (put w1 w.heap.size 0 [.int .i64 k, .string nm, .int .i64 num, .int .i64 j1, .slice p1 m1 d1, .int .i64 j2, .slice p2 m2 d2, .int .i64 lb, .slice a3 ts.length c3]) := below_put (Below.refl w.heap.size w1) (Nat.le_refl _)
  have ab1 : Above (w.heap.size + 1 + 1 + 1) w1 (put w1 w.heap.size 0 [.int .i64 k, .string nm, .int .i64 num, .int .i64 j1, .slice p1 m1 d1, .int .i64 j2, .slice p2 m2 d2, .int .i64 lb, .slice a3 ts.length c3]) := (Above.refl (w.heap.size + 1 + 1 + 1) w1).put (by omega)
  have sz2 : (put w1 w.heap.size 0 [.int .i64 k, .string nm, .int .i64 num, .int .i64 j1, .slice p1 m1 d1, .int .i64 j2, .slice p2 m2 d2, .int .i64 lb, .slice a3 ts.length c3]).heap.size = w1.heap.size := size_put
  have hbw : Below w.heap.size w (put w1 w.heap.size 0 [.int .i64 k, .string nm, .int .i64 num, .int .i64 j1, .slice p1 m1 d1, .int .i64 j2, .slice p2 m2 d2, .int .i64 lb, .slice a3 ts.length c3]) := (below_trans HB0.out hb1).trans hb1p
  have hB2 : (put w1 w.heap.size 0 [.int .i64 k, .string nm, .int .i64 num, .int .i64 j1, .slice p1 m1 d1, .int .i64 j2, .slice p2 m2 d2, .int .i64 lb, .slice a3 ts.length c3]).heap[w.heap.size]? = some (.cells (Array.mk [.int .i64 k, .string nm, .int .i64 num, .int .i64 j1, .slice p1 m1 d1, .int .i64 j2, .slice p2 m2 d2, .int .i64 lb, .slice a3 ts.length c3]) 34 (0, 0)) := by
    rw [heap_put hB]
    simp only [putA, List.setIfInBounds_toArray, List.set]
  have hC2 : (put w1 w.heap.size 0 [.int .i64 k, .string nm, .int .i64 num, .int .i64 j1, .slice p1 m1 d1, .int .i64 j2, .slice p2 m2 d2, .int .i64 lb, .slice a3 ts.length c3]).heap[w.heap.size + 1]? = some (Obj.cells #[.func (.func fc) #[] cs] 45) := (heap_put_ne (by omega)).trans hC1
  have hZ2 : (put w1 w.heap.size 0 [.int .i64 k, .string nm, .int .i64 num, .int .i64 j1, .slice p1 m1 d1, .int .i64 j2, .slice p2 m2 d2, .int .i64 lb, .slice a3 ts.length c3]).heap[w.heap.size + 1 + 1]? = some (Obj.cells #[.int .i64 0, .string ByteArray.empty, .int .i64 0, .int .i64 0, .slice none 0 0, .int .i64 0, .slice none 0 0, .int .i64 0, .slice none 0 0] 34) := (heap_put_ne (by omega)).trans hZ
  have hw1 := hv1.above ab1 (fun b hb => hg.ge b (by simp [hb]))
  have hw2 := hv2.above ab1 (fun b hb => hg.ge b (by simp [hb]))
  have hgg := hg.above ab1 (Nat.le_refl _)
  have hfw : ∀ b ∈ f3, some b ≠ U := fun b hb => HFP.out.2 b (by simp [hb])
  have HW2 := hid (And.intro hB2 (And.intro hC2 (And.intro hZ2 (And.intro hbw (And.intro hw1 (And.intro hw2 (And.intro hgg (And.intro sz2 hM))))))))
  clear hB hC1 hZ hv1 hv2 hg hb1 hb1p ab1 sz2 hbw hB2 hC2 hZ2 hw1 hw2 hgg HB0 HZ0 HCP
  go_upto_region 2 with (fail)
  generalize hW2 : (((((((((w1.setCell ⟨w.heap.size, 0, none⟩ (.int .i64 k)).setCell ⟨w.heap.size, 1, none⟩ (.string nm)).setCell ⟨w.heap.size, 2, none⟩ (.int .i64 num)).setCell ⟨w.heap.size, 3, none⟩ (.int .i64 j1)).setCell ⟨w.heap.size, 4, none⟩ (.slice p1 m1 d1)).setCell ⟨w.heap.size, 5, none⟩ (.int .i64 j2)).setCell ⟨w.heap.size, 6, none⟩ (.slice p2 m2 d2)).setCell ⟨w.heap.size, 7, none⟩ (.int .i64 lb)).setCell ⟨w.heap.size, 8, none⟩ (.slice a3 ts.length c3)) = W2
  have e2 : W2 = put w1 w.heap.size 0 [.int .i64 k, .string nm, .int .i64 num, .int .i64 j1, .slice p1 m1 d1, .int .i64 j2, .slice p2 m2 d2, .int .i64 lb, .slice a3 ts.length c3] := by rw [← hW2]; simp only [put, Nat.zero_add, Nat.reduceAdd]
  rw [← e2] at HW2
  clear x0 x1 x2 x3 x4 x5 x6 x7 x8 xz e2 hW2
  have hM2 : w.heap.size + 1 + 1 < W2.heap.size := by rw [HW2.out.2.2.2.2.2.2.2.1]; exact HW2.out.2.2.2.2.2.2.2.2
  have hB3 : w.heap.size + 1 + 1 + 1 ≤ W2.heap.size := hM2
  have HS0 := hid (show W2.cell? ⟨w.heap.size, 0, none⟩ = some (.int .i64 k) ∧ W2.cell? ⟨w.heap.size, 1, none⟩ = some (.string nm) ∧ W2.cell? ⟨w.heap.size, 2, none⟩ = some (.int .i64 num) ∧ W2.cell? ⟨w.heap.size, 3, none⟩ = some (.int .i64 j1) ∧ W2.cell? ⟨w.heap.size, 4, none⟩ = some (.slice p1 m1 d1) ∧ W2.cell? ⟨w.heap.size, 5, none⟩ = some (.int .i64 j2) ∧ W2.cell? ⟨w.heap.size, 6, none⟩ = some (.slice p2 m2 d2) ∧ W2.cell? ⟨w.heap.size, 7, none⟩ = some (.int .i64 lb) ∧ W2.cell? ⟨w.heap.size, 8, none⟩ = some (.slice a3 ts.length c3) ∧ W2.cell? ⟨w.heap.size + 1, 0, none⟩ = some (.func (.func fc) #[] cs) from by
    obtain ⟨q0, q1, q2, q3, q4, q5, q6, q7, q8⟩ := cells9 HW2.out.1
    exact ⟨q0, q1, q2, q3, q4, q5, q6, q7, q8, by rw [cell_of_block HW2.out.2.1]; rfl⟩)
  have HKW := hid (fun (W : World) (hW : Below W2.heap.size W2 W) => rewriteKids_of 62 #[.pointer (some ⟨w.heap.size + 1, 0, none⟩)] U (w.heap.size + 1 + 1) (w.heap.size + 1 + 1 + 1) (fun j w' => St (lvNL nx n (ts.take j)) w' ∧ w'.heap[w.heap.size + 1]? = some (Obj.cells #[.func (.func fc) #[] cs] 45)) (HUW.out.2.1.mono (by omega)) (HUW.out.2.1.mono (by omega)) (fun m a b h hb => ⟨HST.out _ _ _ h.1 (hb.mono (by have := HUW.out.2.2; omega)), (hb.block _ (by omega)).trans h.2⟩)
    ts (lvL nx ch n ts) HLL.out (by omega) HIH.out k nm num ty fr lb j1 m1 p1 d1 j2 m2 p2 d2 a3 c3 g1 g2 f3 W HNM.out (HW2.out.2.2.2.2.1.below hW) (HW2.out.2.2.2.2.2.1.below hW) (HW2.out.2.2.2.2.2.2.1.below hW) (by have := hW.size; omega) ((HSM.out.below HW2.out.2.2.2.1).below hW) hfw ⟨by simpa only [List.take_zero, lvNL] using HST.out _ _ _ (HST.out _ _ _ HST0.out (HW2.out.2.2.2.1.mono HUW.out.2.2)) (hW.mono (by have := HUW.out.2.2; omega)), blk HW2.out.2.1 hW⟩ (by have := hW.size; omega))
  have HKEEP := hid (fun (W : World) (h : Bo U W2.drew W) => (show W.cell? ⟨w.heap.size, 0, none⟩ = some (.int .i64 k) ∧ W.cell? ⟨w.heap.size, 1, none⟩ = some (.string nm) ∧ W.cell? ⟨w.heap.size, 2, none⟩ = some (.int .i64 num) ∧ W.cell? ⟨w.heap.size, 3, none⟩ = some (.int .i64 j1) ∧ W.cell? ⟨w.heap.size, 4, none⟩ = some (.slice p1 m1 d1) ∧ W.cell? ⟨w.heap.size, 5, none⟩ = some (.int .i64 j2) ∧ W.cell? ⟨w.heap.size, 6, none⟩ = some (.slice p2 m2 d2) ∧ W.cell? ⟨w.heap.size, 7, none⟩ = some (.int .i64 lb) ∧ W.cell? ⟨w.heap.size, 8, none⟩ = some (.slice a3 ts.length c3) ∧ W.cell? ⟨w.heap.size + 1, 0, none⟩ = some (.func (.func fc) #[] cs) from by
    have h2 := (Bo.of_below (U := U) (below_drew W2)).trans h
    obtain ⟨q0, q1, q2, q3, q4, q5, q6, q7, q8⟩ := cells9 (h2.block' HW2.out.1 (HUW.out.2.1.ne (Nat.le_refl _)))
    exact ⟨q0, q1, q2, q3, q4, q5, q6, q7, q8, by rw [cell_of_block (h2.block' HW2.out.2.1 (HUW.out.2.1.ne (by omega)))]; rfl⟩))
  have HKEEP5 := hid (fun (W W' : World) (h : Bo U W2.drew W) (h' : Bo U W W') => (show (W'.cell? ⟨w.heap.size, 0, none⟩ = some (.int .i64 k) ∧ W'.cell? ⟨w.heap.size, 1, none⟩ = some (.string nm) ∧ W'.cell? ⟨w.heap.size, 2, none⟩ = some (.int .i64 num) ∧ W'.cell? ⟨w.heap.size, 3, none⟩ = some (.int .i64 j1) ∧ W'.cell? ⟨w.heap.size, 4, none⟩ = some (.slice p1 m1 d1) ∧ W'.cell? ⟨w.heap.size, 5, none⟩ = some (.int .i64 j2) ∧ W'.cell? ⟨w.heap.size, 6, none⟩ = some (.slice p2 m2 d2) ∧ W'.cell? ⟨w.heap.size, 7, none⟩ = some (.int .i64 lb) ∧ W'.cell? ⟨w.heap.size, 8, none⟩ = some (.slice a3 ts.length c3) ∧ W'.cell? ⟨w.heap.size + 1, 0, none⟩ = some (.func (.func fc) #[] cs)) ∧ W'.heap[w.heap.size + 1 + 1]? = some (Obj.cells #[.int .i64 0, .string ByteArray.empty, .int .i64 0, .int .i64 0, .slice none 0 0, .int .i64 0, .slice none 0 0, .int .i64 0, .slice none 0 0] 34) from ⟨HKEEP.out _ (h.trans h'), (((Bo.of_below (U := U) (below_drew W2)).trans h).trans h').block' HW2.out.2.2.1 (HUW.out.2.1.ne (by omega))⟩))
  have HCH := hid (fun (v : Value) (f : List Nat) (W : World) (hu : (Tm.mk k nm num ty fr lb (lvL nx ch n ts)).At W v f) (hf : Fresh (w.heap.size + 1 + 1 + 1) W f) (hb : Bo U W2.drew W) (hj : St (lvNL nx n (ts.take ts.length)) W ∧ W.heap[w.heap.size + 1]? = some (Obj.cells #[.func (.func fc) #[] cs] 45)) => HCH0.out (lvNL nx n ts) _ v f (w.heap.size + 1 + 1 + 1) W hu hf (by have := HUW.out.2.2; omega) (by have := hb.size; have := (below_drew W2).size; omega) HGD.out (by have := HNS.out; omega) (by simpa only [List.take_length] using hj.1))
  have HFIN := hid (fun (W W' : World) (vs : List Value) (f : List Nat) (hb : Bo U W2.drew W) (hu : (ch (lvNL nx n ts) (.mk k nm num ty fr lb (lvL nx ch n ts))).At W' (.agg vs.toArray) f) (hf : Fresh (w.heap.size + 1 + 1 + 1) W' f) (hb' : Bo U W W') (hst : St (nx (lvNL nx n ts) (kdM (.mk k nm num ty fr lb (lvL nx ch n ts)))) W') => (show RoOut U St w (lvN nx n (.mk k nm num ty fr lb ts)) (lvT nx ch n (.mk k nm num ty fr lb ts)) (.returned (.agg vs.toArray)) (put W' (w.heap.size + 1 + 1) 0 vs) from by
    have ab : Above (w.heap.size + 1 + 1 + 1) W' (put W' (w.heap.size + 1 + 1) 0 vs) := (Above.refl _ _).put (by omega)
    have hbb : Below w.heap.size W' (put W' (w.heap.size + 1 + 1) 0 vs) := below_put (Below.refl w.heap.size W') (by omega)
    rw [HLN.out, HLT.out]
    exact ⟨_, f, rfl, hu.above ab hf.ge, (hf.above ab (Nat.le_refl _)).mono (by omega), (((((Bo.of_below HW2.out.2.2.2.1).trans (Bo.of_below (U := U) (below_drew W2))).trans hb).trans hb').trans_below hbb (Nat.le_refl _)), HST.out _ _ _ hst (hbb.mono HUW.out.2.2)⟩))
  clear HW2 HIH HLL HSM HNM HCH0 HGD HLN HLT HST HST0 HFP hfw HNS HUW
  generalize ch (lvNL nx n ts) (.mk k nm num ty fr lb (lvL nx ch n ts)) = EE at *
  refine regionL (s := 5) (S0 := (fun w' => w'.cell? ⟨w.heap.size, 0, none⟩ = some (.int .i64 k) ∧ w'.cell? ⟨w.heap.size, 1, none⟩ = some (.string nm) ∧ w'.cell? ⟨w.heap.size, 2, none⟩ = some (.int .i64 num) ∧ w'.cell? ⟨w.heap.size, 3, none⟩ = some (.int .i64 j1) ∧ w'.cell? ⟨w.heap.size, 4, none⟩ = some (.slice p1 m1 d1) ∧ w'.cell? ⟨w.heap.size, 5, none⟩ = some (.int .i64 j2) ∧ w'.cell? ⟨w.heap.size, 6, none⟩ = some (.slice p2 m2 d2) ∧ w'.cell? ⟨w.heap.size, 7, none⟩ = some (.int .i64 lb) ∧ w'.cell? ⟨w.heap.size, 8, none⟩ = some (.slice a3 ts.length c3) ∧ w'.cell? ⟨w.heap.size + 1, 0, none⟩ = some (.func (.func fc) #[] cs))) (S1 := (fun _ => True)) (by kernel_rfl) (HS0.out) (trivial) (fun hS0 => ?_)
  refine takeL0 (i := 0) (v := ?v1) rfl rfl (by kernel_rfl) (by kernel_rfl) (by kernel_rfl) (by decide) (by kernel_rfl) (by kernel_rfl) (fun _ _ _ h => h) (Or.inl ⟨by rfl, ?hy1⟩) (by assumption) ?_
  case hy1 => (intro w hSw; (try dsimp only at hSw); go_simp; (try with_reducible rfl))
  try simp only [Act.put, List.setIfInBounds_toArray, List.set_cons_zero, List.set_cons_succ]
  refine takeL0 (i := 1) (v := ?v2) rfl rfl (by kernel_rfl) (by kernel_rfl) (by kernel_rfl) (by decide) (by kernel_rfl) (by kernel_rfl) (fun _ _ _ h => h) (Or.inl ⟨by rfl, ?hy2⟩) (by assumption) ?_
  case hy2 => (intro w hSw; (try dsimp only at hSw); go_simp; (try with_reducible rfl))
  try simp only [Act.put, List.setIfInBounds_toArray, List.set_cons_zero, List.set_cons_succ]
  refine takeL0 (i := 2) (v := ?v3) rfl rfl (by kernel_rfl) (by kernel_rfl) (by kernel_rfl) (by decide) (by kernel_rfl) (by kernel_rfl) (fun _ _ _ h => h) (Or.inl ⟨by rfl, ?hy3⟩) (by assumption) ?_
  case hy3 => (intro w hSw; (try dsimp only at hSw); go_simp; (try with_reducible rfl))
  try simp only [Act.put, List.setIfInBounds_toArray, List.set_cons_zero, List.set_cons_succ]
  refine readyL (rs := [3]) (by kernel_rfl) (by simp) ?_
  refine AllReadyL.cons rfl (fun K hK => ?_) AllReadyL.nil
  go_simp
  refine (HKW.out _ (below_drew W2)).mono ?_
  rintro e w3 ⟨v3, f3r, rfl, hu3, hf3r, hb3, hj3⟩
  obtain ⟨r0, r1, r2, r3, r4, r5, r6, r7, r8, r9, r10, r11, r12, r13, r14, rfl⟩ := hu3.agg
  have HK3 := hid (HKEEP.out _ hb3)
  refine hK.out _ _ ?_ (fun hS1 => ?_)
  · exact ⟨trivial, fun _ => HK3.out⟩
  clear hK K hS0
  try simp only [Act.put, List.setIfInBounds_toArray, List.set_cons_zero, List.set_cons_succ]
  refine readyL (rs := [4]) (by kernel_rfl) (by simp) ?_
  refine AllReadyL.cons rfl (fun K hK => ?_) AllReadyL.nil
  go_simp
  refine (HCH.out _ _ _ hu3 hf3r hb3 hj3).mono ?_
  rintro e w5 ⟨v5, f5, rfl, hu5, hf5, hb5, hst5⟩
  obtain ⟨s0, s1, s2, s3, s4, s5, s6, s7, s8, s9, s10, s11, s12, s13, s14, rfl⟩ := hu5.agg
  have HK5 := hid (HKEEP5.out _ _ hb3 hb5)
  refine hK.out _ _ ?_ (fun hS2 => ?_)
  · exact ⟨trivial, fun _ => HK5.out.1⟩
  clear hK K hS1
  try simp only [Act.put, List.setIfInBounds_toArray, List.set_cons_zero, List.set_cons_succ]
  refine readyL (rs := [5]) (by kernel_rfl) (by simp) ?_
  refine AllReadyL.cons rfl (fun K hK => ?_) AllReadyL.nil
  obtain ⟨y0, y1, y2, y3, y4, y5, y6, y7, y8⟩ := cells9 HK5.out.2
  have yz := fun o => frozen_of_block (o := o) HK5.out.2
  have hM5 : w.heap.size + 1 + 1 < w5.heap.size := lt_of_block HK5.out.2
  go_simp
  refine hK.out _ _ ?_ (fun hS3 => ?_)
  · exact ⟨trivial, fun h => absurd (h.symm.trans (show _ = true by kernel_rfl)) (by decide)⟩
  clear hK K hS2
  try simp only [Act.put, List.setIfInBounds_toArray, List.set_cons_zero, List.set_cons_succ]
  refine doneL (by kernel_rfl) ?_ _
  have FIN := hid (HFIN.out _ _ [.int .i64 s0, .string s1, .int .i64 s2, .int .i64 s3, .slice s5 s4 s6, .int .i64 s7, .slice s9 s8 s10, .int .i64 s11, .slice s13 s12 s14] _ hb3 hu5 hf5 hb5 hst5)
  clear HK3 HK5 HKEEP HKEEP5 hu3 hf3r hb3 hj3 hu5 hf5 hb5 hst5 HCH HKW
  simp only [put, Nat.zero_add, Nat.reduceAdd] at FIN
  go_wp2_with fail
  exact bodyPost_ret (v := .agg #[.int .i64 s0, .string s1, .int .i64 s2, .int .i64 s3, .slice s5 s4 s6, .int .i64 s7, .slice s9 s8 s10, .int .i64 s11, .slice s13 s12 s14]) (by simp [results, Tryd.results39, go_sem, y0, y1, y2, y3, y4, y5, y6, y7, y8]) rfl FIN.out

theorem leaves_any (fc : FuncId) (cs : Array Value) (U : Option Nat) (S0 : Nat) (St : Nat → World → Prop) (nx : Nat → Int → Nat) (ch : Nat → Tm → Tm) (hfc : CallOkT fc) (hU : UL U S0) (hSt : ∀ n w w', St n w → Below S0 w w' → St n w') (hnx : ∀ n k, nx n k ≤ n + 1) (hgd : ∀ n t, gdM t → gdM (ch n t))
    (hch : LfC fc cs U S0 St nx ch) : ∀ t, LeafC fc cs U S0 St nx ch t :=
  Tm.ind fun k nm num ty fr lb ts ih => leaves_of fc cs U S0 St nx ch hfc hU hSt hnx hgd hch k nm num ty fr lb ts ih
end Go.Proofs.YtjpmlmdbldcbjaaDoor

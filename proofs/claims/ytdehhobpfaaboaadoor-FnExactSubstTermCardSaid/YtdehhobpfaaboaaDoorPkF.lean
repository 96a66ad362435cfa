/- The program's copyTerm. The program's substitute. How large a valid term is, and one in which a name has been replaced. -/
import Derived.Test.YtdehhobpfaaboaaDoorRwC
import Derived.Test.YtdehhobpfaaboaaDoorSb1
import Derived.Test.YtdehhobpfaaboaaDoorTx0
namespace Go.Proofs.YtdehhobpfaaboaaDoor
open Go.RowKit

theorem rewrite_any (fc : FuncId) (cs : Array Value) (U S0 : Nat) (St : Nat → World → Prop) (Pre : Nat → Tm → Prop) (nx : Nat → Tm → Nat) (ch : Nat → Tm → Tm ⊕ (Ty × Ty)) (hfc : CallOkT fc) (hU : U < S0) (hCh : ChC fc cs U S0 St Pre nx ch)
    (hSt : ∀ n w w', St n w → Below S0 w w' → St n w')
    (hPre : ∀ k nm num ty fr lb ts n x, Pre n (.mk k nm num ty fr lb ts) → ch n (.mk k nm num ty fr lb ts) = .inr x → ∀ j (h : j < ts.length), Pre (rwNL nx ch (nx n (.mk k nm num ty fr lb ts)) (ts.take j)) ts[j]) :
    ∀ t, RwC fc cs U S0 St Pre nx ch t :=
  Tm.ind fun k nm num ty fr lb ts ih => rewrite_of fc cs U S0 St Pre nx ch hfc hU hCh hSt k nm num ty fr lb ts (fun n x => hPre k nm num ty fr lb ts n x) ih

mutual
/-- Trees whose types are zero or well formed. -/
def okT : Tm → Prop
  | .mk _ _ _ ty fr _ ts => okTy ty ∧ okTy fr ∧ okL ts
def okL : List Tm → Prop
  | [] => True
  | t :: ts => okT t ∧ okL ts
end

theorem okL_get : ∀ {ts : List Tm} (_ : okL ts) (j : Nat) (h : j < ts.length), okT ts[j]
  | t :: ts, h, 0, _ => by simp only [okL] at h; exact h.1
  | t :: ts, h, j + 1, hj => by simp only [okL] at h; exact okL_get h.2 j (by simpa using hj)

def cpNx (n : Nat) (_ : Tm) : Nat := n
def cpCh (_ : Nat) : Tm → Tm ⊕ (Ty × Ty)
  | .mk _ _ _ ty fr _ _ => .inr (ty, fr)

mutual
theorem rwT_copy : ∀ (t : Tm) (n : Nat), rwT cpNx cpCh n t = t
  | .mk k nm num ty fr lb ts, n => by
    rw [rwT]
    simp only [cpCh]
    rw [rwL_copy ts]
theorem rwL_copy : ∀ (ts : List Tm) (n : Nat), rwL cpNx cpCh n ts = ts
  | [], _ => by rw [rwL]
  | t :: ts, n => by rw [rwL, rwT_copy t, rwL_copy ts]
end

theorem callOk_cp : CallOkT 111 := fun _ _ => by kernel_rfl

theorem cp_ch (U S0 : Nat) : ChC 111 #[] U S0 (fun _ _ => True) (fun _ t => okT t) cpNx cpCh := by
  intro n k nm num ty fr lb ts k1 n1 a1 c1 k2 n2 a2 c2 a3 c3 fp w hat hpre _ _ _
  obtain ⟨k1', n1', a1', c1', k2', n2', a2', c2', a3', c3', f1, f2, f3, hv, hnm, ht1, ht2, rfl, hs⟩ := hat.parts
  simp only [Value.agg.injEq, Array.mk.injEq, List.cons.injEq, Value.int.injEq, Value.slice.injEq, true_and, and_true] at hv
  obtain ⟨rfl, ⟨rfl, rfl, rfl⟩, rfl, ⟨rfl, rfl, rfl⟩, rfl, rfl⟩ := hv
  simp only [okT] at hpre
  refine (copyNode_any k nm num ty fr lb a3 ts.length c3 k1 k2 n1 n2 c1 c2 a1 a2 f1 f2 w ht1 ht2 hpre.1 hpre.2.1).mono ?_
  rintro e w' ⟨j1, m1, p1, d1, j2, m2, p2, d2, g1, g2, rfl, q1, q2, q3, q4⟩
  exact ⟨j1, m1, p1, d1, j2, m2, p2, d2, g1, g2, rfl, q1, q2, q3, Bx.of_below q4, trivial⟩

theorem rewriteCopy (U S0 : Nat) (hU : U < S0) : ∀ t, RwC 111 #[] U S0 (fun _ _ => True) (fun _ t => okT t) cpNx cpCh t :=
  rewrite_any _ _ _ _ _ _ _ _ callOk_cp hU (cp_ch U S0) (fun _ _ _ _ _ => trivial) (fun k nm num ty fr lb ts n x h _ j hj => by
    simp only [okT] at h
    exact okL_get h.2.2 j hj)

set_option maxRecDepth 100000 in
set_option maxHeartbeats 2000000 in
theorem copyTerm_any (t : Tm) (v : Value) (fp : List Nat) (w : World) (hat : t.At w v fp) (hok : okT t) (hsz : t.sz ≤ 1048576) : Calls Tryd.prog 72 #[v] w (MadeM w t) := by
  have hlt := hat.lt
  have hat0 := hat
  obtain ⟨k, nm, num, k1, n1, a1, c1, k2, n2, a2, c2, lb, n3, a3, c3, rfl⟩ := hat.agg
  have hb0 : Below w.heap.size w ((w.alloc (Obj.cells #[.int .i64 k, .string nm, .int .i64 num, .int .i64 k1, .slice a1 n1 c1, .int .i64 k2, .slice a2 n2 c2, .int .i64 lb, .slice a3 n3 c3] 34)).alloc (Obj.cells #[.int .i64 0, .string ByteArray.empty, .int .i64 0, .int .i64 0, .slice none 0 0, .int .i64 0, .slice none 0 0, .int .i64 0, .slice none 0 0] 34)) := ((Below.refl _ _).alloc (Nat.le_refl _) _).alloc (by simp) _
  have hs0 : (((w.alloc (Obj.cells #[.int .i64 k, .string nm, .int .i64 num, .int .i64 k1, .slice a1 n1 c1, .int .i64 k2, .slice a2 n2 c2, .int .i64 lb, .slice a3 n3 c3] 34)).alloc (Obj.cells #[.int .i64 0, .string ByteArray.empty, .int .i64 0, .int .i64 0, .slice none 0 0, .int .i64 0, .slice none 0 0, .int .i64 0, .slice none 0 0] 34))).heap.size = w.heap.size + 1 + 1 := by simp
  have HC := hid (rewriteCopy w.heap.size (w.heap.size + 1) (Nat.lt_succ_self _) t 0 _ fp ((w.alloc (Obj.cells #[.int .i64 k, .string nm, .int .i64 num, .int .i64 k1, .slice a1 n1 c1, .int .i64 k2, .slice a2 n2 c2, .int .i64 lb, .slice a3 n3 c3] 34)).alloc (Obj.cells #[.int .i64 0, .string ByteArray.empty, .int .i64 0, .int .i64 0, .slice none 0 0, .int .i64 0, .slice none 0 0, .int .i64 0, .slice none 0 0] 34)) (hat0.below hb0) hok trivial (by rw [hs0]; omega) (fun b hb => by have := hlt b hb; omega) hsz)
  rw [rwT_copy] at HC
  obtain ⟨hB0, hZ0⟩ := two_out (Below.refl (((w.alloc (Obj.cells #[.int .i64 k, .string nm, .int .i64 num, .int .i64 k1, .slice a1 n1 c1, .int .i64 k2, .slice a2 n2 c2, .int .i64 lb, .slice a3 n3 c3] 34)).alloc (Obj.cells #[.int .i64 0, .string ByteArray.empty, .int .i64 0, .int .i64 0, .slice none 0 0, .int .i64 0, .slice none 0 0, .int .i64 0, .slice none 0 0] 34))).heap.size ((w.alloc (Obj.cells #[.int .i64 k, .string nm, .int .i64 num, .int .i64 k1, .slice a1 n1 c1, .int .i64 k2, .slice a2 n2 c2, .int .i64 lb, .slice a3 n3 c3] 34)).alloc (Obj.cells #[.int .i64 0, .string ByteArray.empty, .int .i64 0, .int .i64 0, .slice none 0 0, .int .i64 0, .slice none 0 0, .int .i64 0, .slice none 0 0] 34)))
  obtain ⟨x0, x1, x2, x3, x4, x5, x6, x7, x8⟩ := cells9 hB0
  have HB0 := hid hb0
  have HZ0 := hid hs0
  have HZB := hid hZ0
  clear hat hat0 hlt hb0 hs0 hB0 hZ0 hok hsz
  go_enter Tryd.func72, Tryd.ntmps72
  go_wp2_with fail
  refine HC.out.mono ?_
  rintro e w1 ⟨v1, f', rfl, hat', hf', hbx, -⟩
  obtain ⟨r0, r1, r2, r3, r4, r5, r6, r7, r8, r9, r10, r11, r12, r13, r14, rfl⟩ := hat'.agg
  have hZ := hbx.block' HZB.out (by omega)
  obtain ⟨y0, y1, y2, y3, y4, y5, y6, y7, y8⟩ := cells9 hZ
  have yz := fun o => frozen_of_block (o := o) hZ
  have hM : w.heap.size + 1 < w1.heap.size := lt_of_block hZ
  rw [HZ0.out] at hf'
  have ab : Above (w.heap.size + 1 + 1) w1 (put w1 (w.heap.size + 1) 0 [.int .i64 r0, .string r1, .int .i64 r2, .int .i64 r3, .slice r5 r4 r6, .int .i64 r7, .slice r9 r8 r10, .int .i64 r11, .slice r13 r12 r14]) := (Above.refl _ _).put (Nat.lt_succ_self _)
  have hbw : Below w.heap.size w w1 := HB0.out.trans (hbx.below (by rw [HZ0.out]; omega) (Nat.le_refl _))
  have FIN := hid (show MadeM w t (.returned (.agg (Array.mk [.int .i64 r0, .string r1, .int .i64 r2, .int .i64 r3, .slice r5 r4 r6, .int .i64 r7, .slice r9 r8 r10, .int .i64 r11, .slice r13 r12 r14]))) (put w1 (w.heap.size + 1) 0 [.int .i64 r0, .string r1, .int .i64 r2, .int .i64 r3, .slice r5 r4 r6, .int .i64 r7, .slice r9 r8 r10, .int .i64 r11, .slice r13 r12 r14]) from ⟨_, f', rfl, hat'.above ab hf'.ge, (hf'.above ab (Nat.le_refl _)).mono (by omega), below_put hbw (by omega)⟩)
  clear hat' hf' hbx hZ ab hbw x0 x1 x2 x3 x4 x5 x6 x7 x8
  go_wp2_with fail
  exact bodyPost_ret (v := .agg (Array.mk [.int .i64 r0, .string r1, .int .i64 r2, .int .i64 r3, .slice r5 r4 r6, .int .i64 r7, .slice r9 r8 r10, .int .i64 r11, .slice r13 r12 r14])) (by simp [results, Tryd.results72, go_sem, y0, y1, y2, y3, y4, y5, y6, y7, y8]) rfl FIN.out
end Go.Proofs.YtdehhobpfaaboaaDoor

namespace Go.Proofs.YtdehhobpfaaboaaDoor
open Go.RowKit

def ssCh (name : ByteArray) (u : Tm) (_ : Nat) : Tm → Tm ⊕ (Ty × Ty)
  | .mk k nm num ty fr lb ts => if k = 5 ∧ nm = name then .inl (.mk k nm num ty fr lb ts) else if k = 1 ∧ nm = name then .inl u else .inr (ty, fr)

mutual
theorem rwT_sub (name : ByteArray) (u : Tm) : ∀ (t : Tm) (n : Nat), rwT cpNx (ssCh name u) n t = subT name u t
  | .mk k nm num ty fr lb ts, n => by
    rw [rwT, subT]
    simp only [ssCh]
    by_cases h5 : k = 5 ∧ nm = name
    · have h1 : ¬ (k = 1 ∧ nm = name) := by omega
      rw [if_pos h5, if_neg h1, if_pos h5]
    · by_cases h1 : k = 1 ∧ nm = name
      · rw [if_neg h5, if_pos h1, if_pos h1]
      · rw [if_neg h5, if_neg h1, if_neg h1, if_neg h5]
        simp only
        rw [rwL_sub name u ts]
theorem rwL_sub (name : ByteArray) (u : Tm) : ∀ (ts : List Tm) (n : Nat), rwL cpNx (ssCh name u) n ts = subL name u ts
  | [], _ => by rw [rwL, subL]
  | t :: ts, n => by rw [rwL, subL, rwT_sub name u t, rwL_sub name u ts]
end

/-- What the closure's boxes hold. -/
def SsSt (name : ByteArray) (u : Tm) (M1 M2 : Nat) (vs : Array Value) (fpu : List Nat) (w : World) : Prop :=
  w.heap[M1]? = some (.cells #[.string name] 9 (0, 0)) ∧ w.heap[M2]? = some (.cells vs 34 (0, 0)) ∧ u.At w (.agg vs) fpu

theorem SsSt.below {name : ByteArray} {u : Tm} {M1 M2 S0 : Nat} {vs : Array Value} {fpu : List Nat} {w w' : World} (h : SsSt name u M1 M2 vs fpu w) (hb : Below S0 w w') (h1 : M1 < S0) (h2 : M2 < S0) (hf : ∀ b ∈ fpu, b < S0) : SsSt name u M1 M2 vs fpu w' :=
  ⟨(hb.block _ h1).trans h.1, (hb.block _ h2).trans h.2.1, h.2.2.congr fun b hm o => hb.cell (p := ⟨b, o, none⟩) (hf b hm)⟩

theorem callOk_ss : CallOkT 126 := fun _ _ => by kernel_rfl

set_option maxRecDepth 100000 in
set_option maxHeartbeats 4000000 in
theorem ss_ch (name : ByteArray) (u : Tm) (U S0 M1 M2 : Nat) (vk : Int) (vnm : ByteArray) (vnum vk1 : Int) (va1 : Option Addr) (vn1 vc1 : Nat) (vk2 : Int) (va2 : Option Addr) (vn2 vc2 : Nat) (vlb : Int) (va3 : Option Addr) (vn3 vc3 : Nat) (fpu : List Nat) (hM1 : M1 < S0) (hM2 : M2 < S0) (hfu : ∀ b ∈ fpu, b < S0) (huok : okT u) (husz : u.sz ≤ 1048576) :
    ChC 126 #[.pointer (some ⟨M1, 0, none⟩), .pointer (some ⟨M2, 0, none⟩)] U S0 (fun _ w => SsSt name u M1 M2 #[.int .i64 vk, .string vnm, .int .i64 vnum, .int .i64 vk1, .slice va1 vn1 vc1, .int .i64 vk2, .slice va2 vn2 vc2, .int .i64 vlb, .slice va3 vn3 vc3] fpu w) (fun _ t => okT t ∧ t.sz ≤ 1048576) cpNx (ssCh name u) := by
  intro n k nm num ty fr lb ts k1 n1 a1 c1 k2 n2 a2 c2 a3 c3 fp w hat hpre hst hS0 _
  have hat0 := hat
  obtain ⟨k1', n1', a1', c1', k2', n2', a2', c2', a3', c3', f1, f2, f3, hv, hnm, ht1, ht2, rfl, hs⟩ := hat.parts
  simp only [Value.agg.injEq, Array.mk.injEq, List.cons.injEq, Value.int.injEq, Value.slice.injEq, true_and, and_true] at hv
  obtain ⟨rfl, ⟨rfl, rfl, rfl⟩, rfl, ⟨rfl, rfl, rfl⟩, rfl, rfl⟩ := hv
  have hpre2 := hpre.1
  simp only [okT] at hpre2
  have hb0 : Below w.heap.size w ((w.alloc (Obj.cells #[.int .i64 k, .string nm, .int .i64 num, .int .i64 k1, .slice a1 n1 c1, .int .i64 k2, .slice a2 n2 c2, .int .i64 lb, .slice a3 ts.length c3] 34)).alloc (Obj.cells #[.int .i64 0, .string ByteArray.empty, .int .i64 0, .int .i64 0, .slice none 0 0, .int .i64 0, .slice none 0 0, .int .i64 0, .slice none 0 0] 34)) := ((Below.refl _ _).alloc (Nat.le_refl _) _).alloc (by simp) _
  have hs0 : (((w.alloc (Obj.cells #[.int .i64 k, .string nm, .int .i64 num, .int .i64 k1, .slice a1 n1 c1, .int .i64 k2, .slice a2 n2 c2, .int .i64 lb, .slice a3 ts.length c3] 34)).alloc (Obj.cells #[.int .i64 0, .string ByteArray.empty, .int .i64 0, .int .i64 0, .slice none 0 0, .int .i64 0, .slice none 0 0, .int .i64 0, .slice none 0 0] 34))).heap.size = w.heap.size + 1 + 1 := by simp
  have hst0 := hst.below (hb0.mono hS0) hM1 hM2 hfu
  have HST := hid (fun (w' : World) (hb : Below w.heap.size w w') => hst.below (hb.mono hS0) hM1 hM2 hfu)
  have HCE := hid (copyTerm_any _ _ _ _ (hat0.below hb0) hpre.1 hpre.2)
  have HCV := hid (copyTerm_any _ _ _ _ hst0.2.2 huok husz)
  have HCN := hid (copyNode_any k nm num ty fr lb a3 ts.length c3 k1 k2 n1 n2 c1 c2 a1 a2 f1 f2 ((w.alloc (Obj.cells #[.int .i64 k, .string nm, .int .i64 num, .int .i64 k1, .slice a1 n1 c1, .int .i64 k2, .slice a2 n2 c2, .int .i64 lb, .slice a3 ts.length c3] 34)).alloc (Obj.cells #[.int .i64 0, .string ByteArray.empty, .int .i64 0, .int .i64 0, .slice none 0 0, .int .i64 0, .slice none 0 0, .int .i64 0, .slice none 0 0] 34)) (ht1.below hb0) (ht2.below hb0) hpre2.1 hpre2.2.1)
  obtain ⟨hB0, hZ0⟩ := two_out (Below.refl (((w.alloc (Obj.cells #[.int .i64 k, .string nm, .int .i64 num, .int .i64 k1, .slice a1 n1 c1, .int .i64 k2, .slice a2 n2 c2, .int .i64 lb, .slice a3 ts.length c3] 34)).alloc (Obj.cells #[.int .i64 0, .string ByteArray.empty, .int .i64 0, .int .i64 0, .slice none 0 0, .int .i64 0, .slice none 0 0, .int .i64 0, .slice none 0 0] 34))).heap.size ((w.alloc (Obj.cells #[.int .i64 k, .string nm, .int .i64 num, .int .i64 k1, .slice a1 n1 c1, .int .i64 k2, .slice a2 n2 c2, .int .i64 lb, .slice a3 ts.length c3] 34)).alloc (Obj.cells #[.int .i64 0, .string ByteArray.empty, .int .i64 0, .int .i64 0, .slice none 0 0, .int .i64 0, .slice none 0 0, .int .i64 0, .slice none 0 0] 34)))
  obtain ⟨x0, x1, x2, x3, x4, x5, x6, x7, x8⟩ := cells9 hB0
  have s0 : (((w.alloc (Obj.cells #[.int .i64 k, .string nm, .int .i64 num, .int .i64 k1, .slice a1 n1 c1, .int .i64 k2, .slice a2 n2 c2, .int .i64 lb, .slice a3 ts.length c3] 34)).alloc (Obj.cells #[.int .i64 0, .string ByteArray.empty, .int .i64 0, .int .i64 0, .slice none 0 0, .int .i64 0, .slice none 0 0, .int .i64 0, .slice none 0 0] 34))).cell? ⟨M1, 0, none⟩ = some (.string name) := by rw [cell_of_block hst0.1]; rfl
  obtain ⟨t0, t1, t2, t3, t4, t5, t6, t7, t8⟩ := cells9 hst0.2.1
  have sw := (cell_of_block (o := 0) hst.1)
  obtain ⟨u0, u1, u2, u3, u4, u5, u6, u7, u8⟩ := cells9 hst.2.1
  replace sw : w.cell? ⟨M1, 0, none⟩ = some (.string name) := sw.trans rfl
  have HB0 := hid hb0
  have HZ0 := hid hs0
  have hm1 : M1 < w.heap.size := by omega
  have hm2 : M2 < w.heap.size := by omega
  have HCH := hid (show ssCh name u n (.mk k nm num ty fr lb ts) = if k = 5 ∧ nm = name then .inl (.mk k nm num ty fr lb ts) else if k = 1 ∧ nm = name then .inl u else .inr (ty, fr) from rfl)
  clear hat hat0 ht1 ht2 hs hpre hpre2 hst hst0 hb0 hs0 hB0 hZ0 hM1 hM2 hfu huok husz hS0 hnm
  by_cases h5 : k = 5 ∧ nm = name
  · rw [HCH.out, if_pos h5]
    obtain ⟨rfl, rfl⟩ := h5
    go_enter Tryd.func126, Tryd.ntmps126
    go_wp2_with fail
    refine HCE.out.mono ?_
    rintro e w1 ⟨v1, f', rfl, hat', hf', hb1⟩
    obtain ⟨r0, r1, r2, r3, r4, r5, r6, r7, r8, r9, r10, r11, r12, r13, r14, rfl⟩ := hat'.agg
    obtain ⟨hB, hZ⟩ := two_out hb1
    obtain ⟨y0, y1, y2, y3, y4, y5, y6, y7, y8⟩ := cells9 hZ
    have yz := fun o => frozen_of_block (o := o) hZ
    have hM : w.heap.size + 1 < w1.heap.size := lt_of_block hZ
    rw [HZ0.out] at hf'
    have ab : Above (w.heap.size + 1 + 1) w1 (put w1 (w.heap.size + 1) 0 [.int .i64 r0, .string r1, .int .i64 r2, .int .i64 r3, .slice r5 r4 r6, .int .i64 r7, .slice r9 r8 r10, .int .i64 r11, .slice r13 r12 r14]) := (Above.refl _ _).put (Nat.lt_succ_self _)
    have hbw := below_put (vs := [.int .i64 r0, .string r1, .int .i64 r2, .int .i64 r3, .slice r5 r4 r6, .int .i64 r7, .slice r9 r8 r10, .int .i64 r11, .slice r13 r12 r14]) (o := 0) (b := w.heap.size + 1) (below_trans HB0.out hb1) (by omega)
    have FIN := hid (show ChOut U (fun _ w => SsSt nm u M1 M2 #[.int .i64 vk, .string vnm, .int .i64 vnum, .int .i64 vk1, .slice va1 vn1 vc1, .int .i64 vk2, .slice va2 vn2 vc2, .int .i64 vlb, .slice va3 vn3 vc3] fpu w) w n 5 nm num lb (.slice a3 ts.length c3) (.returned (.tuple #[.agg (Array.mk [.int .i64 r0, .string r1, .int .i64 r2, .int .i64 r3, .slice r5 r4 r6, .int .i64 r7, .slice r9 r8 r10, .int .i64 r11, .slice r13 r12 r14]), .bool false])) (put w1 (w.heap.size + 1) 0 [.int .i64 r0, .string r1, .int .i64 r2, .int .i64 r3, .slice r5 r4 r6, .int .i64 r7, .slice r9 r8 r10, .int .i64 r11, .slice r13 r12 r14]) (.inl (.mk 5 nm num ty fr lb ts)) from ⟨_, f', rfl, hat'.above ab hf'.ge, (hf'.above ab (Nat.le_refl _)).mono (by omega), Bx.of_below hbw, HST.out _ hbw⟩)
    clear hat' hf' hb1 hB hZ ab hbw x0 x1 x2 x3 x4 x5 x6 x7 x8 s0 t0 t1 t2 t3 t4 t5 t6 t7 t8 HCH
    go_wp2_with fail
    exact bodyPost_ret (v := .tuple #[.agg (Array.mk [.int .i64 r0, .string r1, .int .i64 r2, .int .i64 r3, .slice r5 r4 r6, .int .i64 r7, .slice r9 r8 r10, .int .i64 r11, .slice r13 r12 r14]), .bool false]) (by simp [results, Tryd.results126, go_sem, y0, y1, y2, y3, y4, y5, y6, y7, y8]) rfl FIN.out
  · by_cases h1 : k = 1 ∧ nm = name
    · rw [HCH.out, if_neg h5, if_pos h1]
      obtain ⟨rfl, rfl⟩ := h1
      go_enter Tryd.func126, Tryd.ntmps126
      go_wp2_with fail
      refine HCV.out.mono ?_
      rintro e w1 ⟨v1, f', rfl, hat', hf', hb1⟩
      obtain ⟨r0, r1, r2, r3, r4, r5, r6, r7, r8, r9, r10, r11, r12, r13, r14, rfl⟩ := hat'.agg
      obtain ⟨hB, hZ⟩ := two_out hb1
      obtain ⟨y0, y1, y2, y3, y4, y5, y6, y7, y8⟩ := cells9 hZ
      have yz := fun o => frozen_of_block (o := o) hZ
      have hM : w.heap.size + 1 < w1.heap.size := lt_of_block hZ
      rw [HZ0.out] at hf'
      have ab : Above (w.heap.size + 1 + 1) w1 (put w1 (w.heap.size + 1) 0 [.int .i64 r0, .string r1, .int .i64 r2, .int .i64 r3, .slice r5 r4 r6, .int .i64 r7, .slice r9 r8 r10, .int .i64 r11, .slice r13 r12 r14]) := (Above.refl _ _).put (Nat.lt_succ_self _)
      have hbw := below_put (vs := [.int .i64 r0, .string r1, .int .i64 r2, .int .i64 r3, .slice r5 r4 r6, .int .i64 r7, .slice r9 r8 r10, .int .i64 r11, .slice r13 r12 r14]) (o := 0) (b := w.heap.size + 1) (below_trans HB0.out hb1) (by omega)
      have FIN := hid (show ChOut U (fun _ w => SsSt nm u M1 M2 #[.int .i64 vk, .string vnm, .int .i64 vnum, .int .i64 vk1, .slice va1 vn1 vc1, .int .i64 vk2, .slice va2 vn2 vc2, .int .i64 vlb, .slice va3 vn3 vc3] fpu w) w n 1 nm num lb (.slice a3 ts.length c3) (.returned (.tuple #[.agg (Array.mk [.int .i64 r0, .string r1, .int .i64 r2, .int .i64 r3, .slice r5 r4 r6, .int .i64 r7, .slice r9 r8 r10, .int .i64 r11, .slice r13 r12 r14]), .bool false])) (put w1 (w.heap.size + 1) 0 [.int .i64 r0, .string r1, .int .i64 r2, .int .i64 r3, .slice r5 r4 r6, .int .i64 r7, .slice r9 r8 r10, .int .i64 r11, .slice r13 r12 r14]) (.inl (u)) from ⟨_, f', rfl, hat'.above ab hf'.ge, (hf'.above ab (Nat.le_refl _)).mono (by omega), Bx.of_below hbw, HST.out _ hbw⟩)
      clear hat' hf' hb1 hB hZ ab hbw x0 x1 x2 x3 x4 x5 x6 x7 x8 s0 t0 t1 t2 t3 t4 t5 t6 t7 t8 HCH
      go_wp2_with fail
      exact bodyPost_ret (v := .tuple #[.agg (Array.mk [.int .i64 r0, .string r1, .int .i64 r2, .int .i64 r3, .slice r5 r4 r6, .int .i64 r7, .slice r9 r8 r10, .int .i64 r11, .slice r13 r12 r14]), .bool false]) (by simp [results, Tryd.results126, go_sem, y0, y1, y2, y3, y4, y5, y6, y7, y8]) rfl FIN.out
    · rw [HCH.out, if_neg h5, if_neg h1]
      have hk : ((k == 1) = false ∧ (k == 5) = false) ∨ ((k == 1) = true ∧ (k == 5) = false ∧ (nm.toList == name.toList) = false) ∨ ((k == 1) = false ∧ (k == 5) = true ∧ (nm.toList == name.toList) = false) := by
        by_cases e1 : k = 1
        · exact .inr (.inl ⟨by simpa using e1, by simp; omega, name_ne fun e => h1 ⟨e1, e⟩⟩)
        · by_cases e5 : k = 5
          · exact .inr (.inr ⟨by simpa using e1, by simpa using e5, name_ne fun e => h5 ⟨e5, e⟩⟩)
          · exact .inl ⟨by simpa using e1, by simpa using e5⟩
      clear h1 h5 HCH
      rcases hk with ⟨e1, e5⟩ | ⟨e1, e5, hne⟩ | ⟨e1, e5, hne⟩
      all_goals
        go_enter Tryd.func126, Tryd.ntmps126
        go_wp2_with fail
        refine HCN.out.mono ?_
        rintro e w1 ⟨j1, m1, p1, d1, j2, m2, p2, d2, g1, g2, rfl, q1, q2, hg, hb1⟩
        obtain ⟨hB, hZ⟩ := two_out hb1
        obtain ⟨y0, y1, y2, y3, y4, y5, y6, y7, y8⟩ := cells9 hZ
        have yz := fun o => frozen_of_block (o := o) hZ
        have hM : w.heap.size + 1 < w1.heap.size := lt_of_block hZ
        rw [HZ0.out] at hg
        have ab : Above (w.heap.size + 1 + 1) w1 (put w1 (w.heap.size + 1) 0 [.int .i64 k, .string nm, .int .i64 num, .int .i64 j1, .slice p1 m1 d1, .int .i64 j2, .slice p2 m2 d2, .int .i64 lb, .slice a3 ts.length c3]) := (Above.refl _ _).put (Nat.lt_succ_self _)
        have hbw := below_put (vs := [.int .i64 k, .string nm, .int .i64 num, .int .i64 j1, .slice p1 m1 d1, .int .i64 j2, .slice p2 m2 d2, .int .i64 lb, .slice a3 ts.length c3]) (o := 0) (b := w.heap.size + 1) (below_trans HB0.out hb1) (by omega)
        have FIN := hid (show ChOut U (fun _ w => SsSt name u M1 M2 #[.int .i64 vk, .string vnm, .int .i64 vnum, .int .i64 vk1, .slice va1 vn1 vc1, .int .i64 vk2, .slice va2 vn2 vc2, .int .i64 vlb, .slice va3 vn3 vc3] fpu w) w n k nm num lb (.slice a3 ts.length c3) (.returned (.tuple #[.agg (Array.mk [.int .i64 k, .string nm, .int .i64 num, .int .i64 j1, .slice p1 m1 d1, .int .i64 j2, .slice p2 m2 d2, .int .i64 lb, .slice a3 ts.length c3]), .bool true])) (put w1 (w.heap.size + 1) 0 [.int .i64 k, .string nm, .int .i64 num, .int .i64 j1, .slice p1 m1 d1, .int .i64 j2, .slice p2 m2 d2, .int .i64 lb, .slice a3 ts.length c3]) (.inr (ty, fr)) from
          ⟨j1, m1, p1, d1, j2, m2, p2, d2, g1, g2, rfl, q1.above ab (fun b hb => hg.ge b (by simp [hb])), q2.above ab (fun b hb => hg.ge b (by simp [hb])), (hg.above ab (Nat.le_refl _)).mono (by omega), Bx.of_below hbw, HST.out _ hbw⟩)
        clear q1 q2 hg hb1 hB hZ ab hbw x0 x1 x2 x3 x4 x5 x6 x7 x8 s0 t0 t1 t2 t3 t4 t5 t6 t7 t8
        go_wp2_with fail
        exact bodyPost_ret (v := .tuple #[.agg (Array.mk [.int .i64 k, .string nm, .int .i64 num, .int .i64 j1, .slice p1 m1 d1, .int .i64 j2, .slice p2 m2 d2, .int .i64 lb, .slice a3 ts.length c3]), .bool true]) (by simp [results, Tryd.results126, go_sem, y0, y1, y2, y3, y4, y5, y6, y7, y8]) rfl FIN.out

set_option maxRecDepth 100000 in
set_option maxHeartbeats 2000000 in
theorem substitute_any (name : ByteArray) (t u : Tm) (v v2 : Value) (fp fpu : List Nat) (w : World) (hat : t.At w v fp) (hu : u.At w v2 fpu) (hok : okT t) (huok : okT u) (hsz : t.sz ≤ 1048576) (husz : u.sz ≤ 1048576) :
    Calls Tryd.prog 85 #[v, .string name, v2] w (MadeM w (subT name u t)) := by
  have hlt := hat.lt
  have hltu := hu.lt
  have hat0 := hat
  have hu0 := hu
  obtain ⟨k, nm, num, k1, n1, a1, c1, k2, n2, a2, c2, lb, n3, a3, c3, rfl⟩ := hat.agg
  obtain ⟨vk, vnm, vnum, vk1, vn1, va1, vc1, vk2, vn2, va2, vc2, vlb, vn3, va3, vc3, rfl⟩ := hu.agg
  have hb0 : Below w.heap.size w ((((w.alloc (Obj.cells #[.int .i64 k, .string nm, .int .i64 num, .int .i64 k1, .slice a1 n1 c1, .int .i64 k2, .slice a2 n2 c2, .int .i64 lb, .slice a3 n3 c3] 34)).alloc (Obj.cells #[.string name] 9)).alloc (Obj.cells #[.int .i64 vk, .string vnm, .int .i64 vnum, .int .i64 vk1, .slice va1 vn1 vc1, .int .i64 vk2, .slice va2 vn2 vc2, .int .i64 vlb, .slice va3 vn3 vc3] 34)).alloc (Obj.cells #[.int .i64 0, .string ByteArray.empty, .int .i64 0, .int .i64 0, .slice none 0 0, .int .i64 0, .slice none 0 0, .int .i64 0, .slice none 0 0] 34)) := ((((Below.refl _ _).alloc (Nat.le_refl _) _).alloc (by simp) _).alloc (by simp; omega) _).alloc (by simp; omega) _
  have hs0 : (((((w.alloc (Obj.cells #[.int .i64 k, .string nm, .int .i64 num, .int .i64 k1, .slice a1 n1 c1, .int .i64 k2, .slice a2 n2 c2, .int .i64 lb, .slice a3 n3 c3] 34)).alloc (Obj.cells #[.string name] 9)).alloc (Obj.cells #[.int .i64 vk, .string vnm, .int .i64 vnum, .int .i64 vk1, .slice va1 vn1 vc1, .int .i64 vk2, .slice va2 vn2 vc2, .int .i64 vlb, .slice va3 vn3 vc3] 34)).alloc (Obj.cells #[.int .i64 0, .string ByteArray.empty, .int .i64 0, .int .i64 0, .slice none 0 0, .int .i64 0, .slice none 0 0, .int .i64 0, .slice none 0 0] 34))).heap.size = w.heap.size + 1 + 1 + 1 + 1 := by simp
  obtain ⟨hB0, hN0, hV0, hZ0⟩ := four_out (Below.refl (((((w.alloc (Obj.cells #[.int .i64 k, .string nm, .int .i64 num, .int .i64 k1, .slice a1 n1 c1, .int .i64 k2, .slice a2 n2 c2, .int .i64 lb, .slice a3 n3 c3] 34)).alloc (Obj.cells #[.string name] 9)).alloc (Obj.cells #[.int .i64 vk, .string vnm, .int .i64 vnum, .int .i64 vk1, .slice va1 vn1 vc1, .int .i64 vk2, .slice va2 vn2 vc2, .int .i64 vlb, .slice va3 vn3 vc3] 34)).alloc (Obj.cells #[.int .i64 0, .string ByteArray.empty, .int .i64 0, .int .i64 0, .slice none 0 0, .int .i64 0, .slice none 0 0, .int .i64 0, .slice none 0 0] 34))).heap.size ((((w.alloc (Obj.cells #[.int .i64 k, .string nm, .int .i64 num, .int .i64 k1, .slice a1 n1 c1, .int .i64 k2, .slice a2 n2 c2, .int .i64 lb, .slice a3 n3 c3] 34)).alloc (Obj.cells #[.string name] 9)).alloc (Obj.cells #[.int .i64 vk, .string vnm, .int .i64 vnum, .int .i64 vk1, .slice va1 vn1 vc1, .int .i64 vk2, .slice va2 vn2 vc2, .int .i64 vlb, .slice va3 vn3 vc3] 34)).alloc (Obj.cells #[.int .i64 0, .string ByteArray.empty, .int .i64 0, .int .i64 0, .slice none 0 0, .int .i64 0, .slice none 0 0, .int .i64 0, .slice none 0 0] 34)))
  have HC := hid (rewrite_any _ _ w.heap.size (w.heap.size + 1 + 1 + 1 + 1) _ _ _ _ callOk_ss (by omega) (ss_ch name u w.heap.size (w.heap.size + 1 + 1 + 1 + 1) (w.heap.size + 1) (w.heap.size + 1 + 1) vk vnm vnum vk1 va1 vn1 vc1 vk2 va2 vn2 vc2 vlb va3 vn3 vc3 fpu (by omega) (by omega) (fun b hb => by have := hltu b hb; omega) huok husz)
    (fun _ _ _ h hb => h.below hb (by omega) (by omega) (fun b hb => by have := hltu b hb; omega))
    (fun k nm num ty fr lb ts n x h _ j hj => by
      refine ⟨?_, ?_⟩
      · have := h.1
        simp only [okT] at this
        exact okL_get this.2.2 j hj
      · have := h.2
        simp only [Tm.sz] at this
        have := sz_mem (List.getElem_mem hj)
        omega) t 0 _ fp ((((w.alloc (Obj.cells #[.int .i64 k, .string nm, .int .i64 num, .int .i64 k1, .slice a1 n1 c1, .int .i64 k2, .slice a2 n2 c2, .int .i64 lb, .slice a3 n3 c3] 34)).alloc (Obj.cells #[.string name] 9)).alloc (Obj.cells #[.int .i64 vk, .string vnm, .int .i64 vnum, .int .i64 vk1, .slice va1 vn1 vc1, .int .i64 vk2, .slice va2 vn2 vc2, .int .i64 vlb, .slice va3 vn3 vc3] 34)).alloc (Obj.cells #[.int .i64 0, .string ByteArray.empty, .int .i64 0, .int .i64 0, .slice none 0 0, .int .i64 0, .slice none 0 0, .int .i64 0, .slice none 0 0] 34)) (hat0.below hb0) ⟨hok, hsz⟩ ⟨hN0, hV0, hu0.below hb0⟩ (by rw [hs0]; exact Nat.le_refl _) (fun b hb => by have := hlt b hb; omega) hsz)
  rw [rwT_sub] at HC
  obtain ⟨x0, x1, x2, x3, x4, x5, x6, x7, x8⟩ := cells9 hB0
  have HB0 := hid hb0
  have HZ0 := hid hs0
  have HZB := hid hZ0
  clear hat hat0 hu hu0 hlt hltu hb0 hs0 hB0 hN0 hV0 hZ0 hok huok hsz husz
  go_enter Tryd.func85, Tryd.ntmps85
  go_wp2_with fail
  refine HC.out.mono ?_
  rintro e w1 ⟨v1, f', rfl, hat', hf', hbx, -⟩
  obtain ⟨r0, r1, r2, r3, r4, r5, r6, r7, r8, r9, r10, r11, r12, r13, r14, rfl⟩ := hat'.agg
  have hZ := hbx.block' HZB.out (by omega)
  obtain ⟨y0, y1, y2, y3, y4, y5, y6, y7, y8⟩ := cells9 hZ
  have yz := fun o => frozen_of_block (o := o) hZ
  have hM : w.heap.size + 1 + 1 + 1 < w1.heap.size := lt_of_block hZ
  rw [HZ0.out] at hf'
  have ab : Above (w.heap.size + 1 + 1 + 1 + 1) w1 (put w1 (w.heap.size + 1 + 1 + 1) 0 [.int .i64 r0, .string r1, .int .i64 r2, .int .i64 r3, .slice r5 r4 r6, .int .i64 r7, .slice r9 r8 r10, .int .i64 r11, .slice r13 r12 r14]) := (Above.refl _ _).put (Nat.lt_succ_self _)
  have hbw : Below w.heap.size w w1 := HB0.out.trans (hbx.below (by rw [HZ0.out]; omega) (Nat.le_refl _))
  have FIN := hid (show MadeM w (subT name u t) (.returned (.agg (Array.mk [.int .i64 r0, .string r1, .int .i64 r2, .int .i64 r3, .slice r5 r4 r6, .int .i64 r7, .slice r9 r8 r10, .int .i64 r11, .slice r13 r12 r14]))) (put w1 (w.heap.size + 1 + 1 + 1) 0 [.int .i64 r0, .string r1, .int .i64 r2, .int .i64 r3, .slice r5 r4 r6, .int .i64 r7, .slice r9 r8 r10, .int .i64 r11, .slice r13 r12 r14]) from ⟨_, f', rfl, hat'.above ab hf'.ge, (hf'.above ab (Nat.le_refl _)).mono (by omega), below_put hbw (by omega)⟩)
  clear hat' hf' hbx hZ ab hbw x0 x1 x2 x3 x4 x5 x6 x7 x8
  go_wp2_with fail
  exact bodyPost_ret (v := .agg (Array.mk [.int .i64 r0, .string r1, .int .i64 r2, .int .i64 r3, .slice r5 r4 r6, .int .i64 r7, .slice r9 r8 r10, .int .i64 r11, .slice r13 r12 r14])) (by simp [results, Tryd.results85, go_sem, y0, y1, y2, y3, y4, y5, y6, y7, y8]) rfl FIN.out
end Go.Proofs.YtdehhobpfaaboaaDoor

namespace Go.Proofs.YtdehhobpfaaboaaDoor
open Go.RowKit

theorem shp_cnt : ∀ (d : Nat) (t : Ty), shp d t = true → t.cnt + 2 ≤ 2 ^ (d + 1)
  | 0, _, h => by simp [shp] at h
  | d + 1, .mk k ts, h => by
    have hp : 0 < 2 ^ (d + 1) := Nat.pow_pos (by omega)
    rcases shp_cases h with ⟨rfl, _⟩ | ⟨x, y, rfl, _, hx, hy⟩
    · simp only [Ty.cnt, cntL, List.length_nil, Nat.pow_succ] at *
      omega
    · have h1 := shp_cnt d x hx
      have h2 := shp_cnt d y hy
      simp only [Ty.cnt, cntL, List.length_cons, List.length_nil, Nat.pow_succ] at *
      omega

theorem vld_cnt {t : Ty} (h : vld t = true) : t.cnt ≤ 30 := by
  have := shp_cnt 4 t h
  omega

theorem noTy_cnt {t : Ty} (h : noTy t = true) : t.cnt = 0 := by
  rw [noTy_eq h]
  simp [Ty.cnt, cntL]

theorem own_sz {k : Int} {nm : ByteArray} {num : Int} {ty fr : Ty} {lb : Int} (h : ownM k nm num ty fr lb = true) (h14 : (k != 14) = true) : nm.size ≤ 1 ∧ ty.cnt ≤ 30 ∧ fr.cnt = 0 := by
  have e14 : (k == 14) = false := by simpa using h14
  simp only [ownM, e14, Bool.false_or, Bool.and_eq_true, beq_iff_eq] at h
  obtain ⟨⟨⟨hn, hty⟩, hfr, -⟩, -⟩ := h
  refine ⟨?_, ?_, noTy_cnt hfr⟩
  · split at hn
    · simp only [isNm, Bool.and_eq_true, beq_iff_eq] at hn
      omega
    · simp only [beq_iff_eq] at hn
      omega
  · split at hty
    · exact vld_cnt hty
    · have := noTy_cnt hty
      omega

theorem okT_shpM : ∀ (d : Nat) (t : Tm), shpM d t = true → okT t
  | 0, _, h => by simp [shpM] at h
  | d + 1, .mk k nm num ty fr lb ts, h => by
    simp only [shpM, Bool.and_eq_true] at h
    obtain ⟨⟨⟨-, h14⟩, hown⟩, hall⟩ := h
    have e14 : (k == 14) = false := by simpa using h14
    simp only [ownM, e14, Bool.false_or, Bool.and_eq_true, beq_iff_eq] at hown
    obtain ⟨⟨⟨-, hty⟩, hfr, -⟩, -⟩ := hown
    simp only [okT]
    refine ⟨?_, .inr hfr, ?_⟩
    · split at hty
      · exact .inl (wf_of_vld hty)
      · exact .inr hty
    · have hl : ∀ us : List Tm, us.all (shpM d) = true → okL us := by
        intro us
        induction us with
        | nil => intro _; simp [okL]
        | cons a bs ih =>
          intro h
          simp only [List.all_cons, Bool.and_eq_true] at h
          simp only [okL]
          exact ⟨okT_shpM d a h.1, ih h.2⟩
      exact hl ts hall

theorem sub_sz (name : ByteArray) (u : Tm) (C : Int) (hC : C = 32 + (u.sz : Int)) : ∀ (d : Nat) (t : Tm), shpM d t = true → ((subT name u t).sz : Int) + 1 ≤ C * cntD d t ∧ (t.sz : Int) + 1 ≤ 32 * cntD d t
  | 0, _, h => by simp [shpM] at h
  | d + 1, .mk k nm num ty fr lb ts, h => by
    simp only [shpM, Bool.and_eq_true] at h
    obtain ⟨⟨⟨-, h14⟩, hown⟩, hall⟩ := h
    obtain ⟨z1, z2, z3⟩ := own_sz hown h14
    have hl : ∀ us : List Tm, us.all (shpM d) = true → (szML (subL name u us) : Int) + (subL name u us).length ≤ C * sumL (cntD d) us ∧ (szML us : Int) + us.length ≤ 32 * sumL (cntD d) us ∧ 0 ≤ sumL (cntD d) us := by
      intro us
      induction us with
      | nil => intro _; simp [szML, subL, sumL]
      | cons a bs ih =>
        intro h
        simp only [List.all_cons, Bool.and_eq_true] at h
        obtain ⟨p1, p2⟩ := sub_sz name u C hC d a h.1
        obtain ⟨q1, q2, q3⟩ := ih h.2
        have hp := cntD_pos d a
        simp only [szML, subL, sumL, List.length_cons, Int.mul_add, Int.natCast_add]
        omega
    obtain ⟨q1, q2, q3⟩ := hl ts hall
    have hCp : C * 1 ≤ C * (1 + sumL (cntD d) ts) := Int.mul_le_mul_of_nonneg_left (by omega) (by omega)
    have h32 : 32 * (1 + sumL (cntD d) ts) ≤ C * (1 + sumL (cntD d) ts) := Int.mul_le_mul_of_nonneg_right (by omega) (by omega)
    have hs2 : ((Tm.mk k nm num ty fr lb ts).sz : Int) + 1 ≤ 32 * (1 + sumL (cntD d) ts) := by
      simp only [Tm.sz, Int.natCast_add]
      omega
    refine ⟨?_, by simpa only [cntD] using hs2⟩
    simp only [cntD]
    rw [subT]
    split
    · omega
    · split
      · omega
      · rw [Int.mul_add]
        simp only [Tm.sz, Int.natCast_add]
        omega

theorem vldM_sz {t : Tm} (h : vldM t = true) : t.sz ≤ 1000 := by
  unfold vldM at h
  simp only [Bool.and_eq_true, decide_eq_true_eq] at h
  have := (sub_sz ByteArray.empty (.mk 0 ByteArray.empty 0 (.mk 0 []) (.mk 0 []) 0 []) _ rfl 12 t h.1).2
  omega

/-- A valid term in which a name has been replaced by a valid term. -/
theorem subT_sz {name : ByteArray} {t u : Tm} (h : vldM t = true) (hu : vldM u = true) : (subT name u t).sz ≤ 40000 := by
  have hz := vldM_sz hu
  unfold vldM at h
  simp only [Bool.and_eq_true, decide_eq_true_eq] at h
  have h1 := (sub_sz name u _ rfl 12 t h.1).1
  have h2 : (32 + (u.sz : Int)) * cntD 12 t ≤ (32 + (u.sz : Int)) * 30 := Int.mul_le_mul_of_nonneg_left h.2 (by omega)
  omega
end Go.Proofs.YtdehhobpfaaboaaDoor

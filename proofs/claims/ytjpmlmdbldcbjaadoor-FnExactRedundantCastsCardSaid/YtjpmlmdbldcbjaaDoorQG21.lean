/- How many casts a term has. The specification's CountCasts. The program's CountCasts. -/
import Derived.Test.YtjpmlmdbldcbjaaDoorQEcJ
import Derived.Test.YtjpmlmdbldcbjaaDoorQC4
namespace Go.Proofs.YtjpmlmdbldcbjaaDoor
open Go.RowKit

def ccStep (n : Nat) (_ : Tm) : Nat := n + 1
theorem ccStep_len : ∀ (a : Nat) (t : Tm), id (ccStep a t) ≤ id a + 2 := fun a t => by simp [ccStep]
/-- The number of a term's casts. -/
def ccN (t : Tm) : Nat := ecN ccStep 0 t

mutual
theorem ecN_cc : ∀ (t : Tm) (n : Nat), ecN ccStep n t = n + ecN ccStep 0 t
  | .mk k nm num ty fr lb ts, n => by
    simp only [ecN, ccStep]
    rw [ecL_cc ts (if k = 14 then n + 1 else n), ecL_cc ts (if k = 14 then 0 + 1 else 0)]
    split <;> omega
theorem ecL_cc : ∀ (ts : List Tm) (n : Nat), ecL ccStep n ts = n + ecL ccStep 0 ts
  | [], n => by simp [ecL]
  | t :: ts, n => by
    simp only [ecL]
    rw [ecL_cc ts (ecN ccStep n t), ecL_cc ts (ecN ccStep 0 t), ecN_cc t n]
    omega
end

theorem cc_take (ts : List Tm) (a j : Nat) (h : j < ts.length) : ecL ccStep a (ts.take (j + 1)) = ecL ccStep a (ts.take j) + ccN ts[j] := by
  rw [ecL_take ccStep ts a j h, ecN_cc]
  rfl
theorem cc_len (t : Tm) : ccN t ≤ 2 * (t.sz + 1) := by
  have := ecN_len ccStep id ccStep_len t 0
  simpa [ccN] using this
theorem cc_takelen (ts : List Tm) (a j : Nat) (h : j < ts.length) : ecL ccStep a (ts.take j) + 2 * (ts[j].sz + 1) ≤ a + 2 * (ts.length + szML ts) := ecL_take_len ccStep id ccStep_len ts a j h
end Go.Proofs.YtjpmlmdbldcbjaaDoor

namespace Go.Proofs.YtjpmlmdbldcbjaaDoor
open Go.RowKit

def CcC (t : Tm) : Prop := ∀ (tv : Value) (fp : List Nat) (w : World), t.At w tv fp → t.sz ≤ 1048576 →
  Calls Tryd.prog 36 #[tv] w fun e w' => e = .returned (.int .i64 ((ccN t : Nat) : Int)) ∧ Below w.heap.size w w'

set_option linter.unusedSimpArgs false in
set_option maxRecDepth 100000 in
set_option maxHeartbeats 4000000 in
theorem l11Casts_of (k : Int) (nm : ByteArray) (num : Int) (ty fr : Ty) (lb : Int) (ts : List Tm) (ih : ∀ t ∈ ts, CcC t) : CcC (.mk k nm num ty fr lb ts) := by
  intro tv fp w hat hsz
  have HIH := hid ih
  clear ih
  obtain ⟨k1, n1, a1, c1, k2, n2, a2, c2, a3, c3, f1, f2, f3, rfl, hnm, ht1, ht2, rfl, hs⟩ := hat.parts
  obtain ⟨a, cap, hss, hc, hm, hget⟩ := hs.open
  cases hss
  have HG := hid hget
  have HSZ := hid (show ts.length + szML ts ≤ 1048576 by simp only [Tm.sz] at hsz; omega)
  have HEC := hid (show ccN (.mk k nm num ty fr lb ts) = ecL ccStep (if k = 14 then 1 else 0) ts by simp only [ccN, ecN, ccStep, Nat.zero_add])
  have hb0 : Below w.heap.size w (w.alloc (Obj.cells #[.int .i64 k, .string nm, .int .i64 num, .int .i64 k1, .slice a1 n1 c1, .int .i64 k2, .slice a2 n2 c2, .int .i64 lb, .slice a3 ts.length c3] 34)) := (Below.refl _ _).alloc (Nat.le_refl _) _
  obtain ⟨z0, z1, z2, z3, z4, z5, z6, z7, z8⟩ := box9 (Below.refl (w.alloc (Obj.cells #[.int .i64 k, .string nm, .int .i64 num, .int .i64 k1, .slice a1 n1 c1, .int .i64 k2, .slice a2 n2 c2, .int .i64 lb, .slice a3 ts.length c3] 34)).heap.size (w.alloc (Obj.cells #[.int .i64 k, .string nm, .int .i64 num, .int .i64 k1, .slice a1 n1 c1, .int .i64 k2, .slice a2 n2 c2, .int .i64 lb, .slice a3 ts.length c3] 34)))
  clear hget hat hsz hs ht1 ht2 hnm
  by_cases hk : k = 14
  · subst hk
    rw [if_pos rfl] at HEC
    go_enter Tryd.func36, Tryd.ntmps36
    go_wp2_with fail
    go_loopw [3, 4] (fun n i wr => ∃ (j : Nat), j ≤ ts.length ∧ i = .int .i64 j ∧ n = .int .i64 ((ecL ccStep 1 (ts.take j) : Nat) : Int) ∧ Below (w.alloc (Obj.cells #[.int .i64 14, .string nm, .int .i64 num, .int .i64 k1, .slice a1 n1 c1, .int .i64 k2, .slice a2 n2 c2, .int .i64 lb, .slice a3 ts.length c3] 34)).heap.size (w.alloc (Obj.cells #[.int .i64 14, .string nm, .int .i64 num, .int .i64 k1, .slice a1 n1 c1, .int .i64 k2, .slice a2 n2 c2, .int .i64 lb, .slice a3 ts.length c3] 34)) wr) (fun _ i _ => ts.length - (intOf i).toNat)
    case atStart => exact ⟨0, Nat.zero_le _, rfl, by simp [ecL], Below.refl _ _⟩
    case round =>
      obtain ⟨j, hj, rfl, rfl, hbr⟩ := hrel
      obtain ⟨z0, z1, z2, z3, z4, z5, z6, z7, z8⟩ := box9 hbr
      have HBR := hid hbr
      clear hbr
      by_cases hlk : j < ts.length
      · obtain ⟨b, o, q0, q1, q2, q3, q4, q5, q6, q7, q8, q9, q10, q11, q12, q13, q14, g1, hab, hblt, e0, e1, e2, e3, e4, e5, e6, e7, e8, hat, hf⟩ := HG.out j hlk
        subst hab
        have hbb := below_trans hb0 HBR.out
        have HAT := hid (hat.below hbb)
        replace e0 := cell_keep e0 hbb
        replace e1 := cell_keep e1 hbb
        replace e2 := cell_keep e2 hbb
        replace e3 := cell_keep e3 hbb
        replace e4 := cell_keep e4 hbb
        replace e5 := cell_keep e5 hbb
        replace e6 := cell_keep e6 hbb
        replace e7 := cell_keep e7 hbb
        replace e8 := cell_keep e8 hbb
        have HTK := hid (cc_take ts 1 j hlk)
        have hszj : ts[j].sz ≤ 1048576 := by have := HSZ.out; have := sz_mem (List.getElem_mem hlk); omega
        have hl2 : ecL ccStep 1 (ts.take j) + ccN ts[j] ≤ 4194300 := by
          have h1 := cc_takelen ts 1 j hlk
          have h2 := cc_len ts[j]
          have := HSZ.out
          omega
        have HL2 := hid hl2
        have HIH2 := hid (HIH.out _ (List.getElem_mem hlk) _ _ _ HAT.out hszj)
        generalize ecL ccStep 1 (ts.take j) = E at *
        generalize hC : ccN ts[j] = C at *
        have hE0 : (0 : Int) ≤ (E : Int) := by omega
        have hC0 : (0 : Int) ≤ (C : Int) := by omega
        have hEC : (E : Int) + (C : Int) ≤ 4194300 := by omega
        clear hat hf hl2 hbb hC
        go_wp2_with fail
        refine HIH2.out.mono ?_
        rintro e w4 ⟨rfl, hb5⟩
        have HB5 := hid (below_trans HBR.out hb5)
        clear hb5 e0 e1 e2 e3 e4 e5 e6 e7 e8 z0 z1 z2 z3 z4 z5 z6 z7 z8
        go_wp2_with fail
        go_roundw
        case rel => exact ⟨j + 1, by omega, by go_num, by rw [HTK.out]; simp, HB5.out⟩
        case measure => simp [intOf]; omega
      · have hz : ts.take j = ts := List.take_of_length_le (by omega)
        rw [hz]
        have HZ := hid hz
        clear hz
        go_wp2_with fail
        go_ret
        exact ⟨ret_i (by rw [HEC.out]), below_trans hb0 HBR.out⟩
  · rw [if_neg hk] at HEC
    have hk' : (k == 14) = false := by simpa using hk
    go_enter Tryd.func36, Tryd.ntmps36
    go_wp2_with fail
    go_loopw [3, 4] (fun n i wr => ∃ (j : Nat), j ≤ ts.length ∧ i = .int .i64 j ∧ n = .int .i64 ((ecL ccStep 0 (ts.take j) : Nat) : Int) ∧ Below (w.alloc (Obj.cells #[.int .i64 k, .string nm, .int .i64 num, .int .i64 k1, .slice a1 n1 c1, .int .i64 k2, .slice a2 n2 c2, .int .i64 lb, .slice a3 ts.length c3] 34)).heap.size (w.alloc (Obj.cells #[.int .i64 k, .string nm, .int .i64 num, .int .i64 k1, .slice a1 n1 c1, .int .i64 k2, .slice a2 n2 c2, .int .i64 lb, .slice a3 ts.length c3] 34)) wr) (fun _ i _ => ts.length - (intOf i).toNat)
    case atStart => exact ⟨0, Nat.zero_le _, rfl, by simp [ecL], Below.refl _ _⟩
    case round =>
      obtain ⟨j, hj, rfl, rfl, hbr⟩ := hrel
      obtain ⟨z0, z1, z2, z3, z4, z5, z6, z7, z8⟩ := box9 hbr
      have HBR := hid hbr
      clear hbr
      by_cases hlk : j < ts.length
      · obtain ⟨b, o, q0, q1, q2, q3, q4, q5, q6, q7, q8, q9, q10, q11, q12, q13, q14, g1, hab, hblt, e0, e1, e2, e3, e4, e5, e6, e7, e8, hat, hf⟩ := HG.out j hlk
        subst hab
        have hbb := below_trans hb0 HBR.out
        have HAT := hid (hat.below hbb)
        replace e0 := cell_keep e0 hbb
        replace e1 := cell_keep e1 hbb
        replace e2 := cell_keep e2 hbb
        replace e3 := cell_keep e3 hbb
        replace e4 := cell_keep e4 hbb
        replace e5 := cell_keep e5 hbb
        replace e6 := cell_keep e6 hbb
        replace e7 := cell_keep e7 hbb
        replace e8 := cell_keep e8 hbb
        have HTK := hid (cc_take ts 0 j hlk)
        have hszj : ts[j].sz ≤ 1048576 := by have := HSZ.out; have := sz_mem (List.getElem_mem hlk); omega
        have hl2 : ecL ccStep 0 (ts.take j) + ccN ts[j] ≤ 4194300 := by
          have h1 := cc_takelen ts 0 j hlk
          have h2 := cc_len ts[j]
          have := HSZ.out
          omega
        have HL2 := hid hl2
        have HIH2 := hid (HIH.out _ (List.getElem_mem hlk) _ _ _ HAT.out hszj)
        generalize ecL ccStep 0 (ts.take j) = E at *
        generalize hC : ccN ts[j] = C at *
        have hE0 : (0 : Int) ≤ (E : Int) := by omega
        have hC0 : (0 : Int) ≤ (C : Int) := by omega
        have hEC : (E : Int) + (C : Int) ≤ 4194300 := by omega
        clear hat hf hl2 hbb hC
        go_wp2_with fail
        refine HIH2.out.mono ?_
        rintro e w4 ⟨rfl, hb5⟩
        have HB5 := hid (below_trans HBR.out hb5)
        clear hb5 e0 e1 e2 e3 e4 e5 e6 e7 e8 z0 z1 z2 z3 z4 z5 z6 z7 z8
        go_wp2_with fail
        go_roundw
        case rel => exact ⟨j + 1, by omega, by go_num, by rw [HTK.out]; simp, HB5.out⟩
        case measure => simp [intOf]; omega
      · have hz : ts.take j = ts := List.take_of_length_le (by omega)
        rw [hz]
        have HZ := hid hz
        clear hz
        go_wp2_with fail
        go_ret
        exact ⟨ret_i (by rw [HEC.out]), below_trans hb0 HBR.out⟩

theorem l11Casts_any : ∀ t : Tm, CcC t := Tm.ind l11Casts_of

/-- The document's CountCasts. -/
def ccO (t : Tm) : Nat := if vldC t then ccN t else 0

end Go.Proofs.YtjpmlmdbldcbjaaDoor

namespace Go.Proofs.YtjpmlmdbldcbjaaDoor
open Go.RowKit

theorem callOk_cc : CallOkT 59 := fun _ _ => by kernel_rfl

/-- The variable of block M holds the number of casts that have been visited. -/
def CcAt (M B : Nat) (c : Nat) (v : Value) (w : World) : Prop := w.heap[M]? = some (.cells #[.int .i64 (c : Int)] 3 (0, 0)) ∧ v = .int .u32 0 ∧ M < B

theorem CcAt.below {M B : Nat} {c : Nat} {v : Value} {w w' : World} (h : CcAt M B c v w) (hb : Below w.heap.size w w') : CcAt M B c v w' := ⟨blk h.1 hb, h.2.1, h.2.2⟩

theorem cc_close {w : World} {M B c : Nat} (o : Obj) (hO : w.heap[M]? = some (.cells #[.int .i64 (c : Int)] 3 (0, 0))) (hMB : M < B) :
    CcAt M B (c + 1) (.int .u32 0) ((w.setCell ⟨M, 0, none⟩ (.int .i64 ((c : Int) + 1))).alloc o) ∧ Lr M w ((w.setCell ⟨M, 0, none⟩ (.int .i64 ((c : Int) + 1))).alloc o) (.int .u32 0) (.int .u32 0) := by
  have hb : Below (w.setCell ⟨M, 0, none⟩ (.int .i64 ((c : Int) + 1))).heap.size (w.setCell ⟨M, 0, none⟩ (.int .i64 ((c : Int) + 1))) ((w.setCell ⟨M, 0, none⟩ (.int .i64 ((c : Int) + 1))).alloc o) := (Below.refl _ _).alloc (Nat.le_refl _) _
  have hsz := size_setCell w ⟨M, 0, none⟩ (.int .i64 ((c : Int) + 1))
  refine ⟨⟨blk (heap_setCell_at hO _) hb, rfl, hMB⟩, ⟨⟨hb.os, hb.tape, hb.output, ?_⟩, fun k hk hkM _ => ?_, .inl rfl⟩⟩
  · have := hb.size
    omega
  · rw [hb.block k (by omega), Below.heap_setCell _ _ _ _ hkM]

set_option maxRecDepth 100000 in
set_option maxHeartbeats 2000000 in
theorem visitCc (M B : Nat) : VisC 59 #[.pointer (some ⟨M, 0, none⟩)] M B (CcAt M B) id ccStep := by
  intro c v nm num ty fr lb ts k1 n1 a1 c1 k2 n2 a2 c2 a3 c3 fp w hS hat hown4 hfp hBw hlen
  obtain ⟨hO, rfl, hMB⟩ := hS
  have hb0 : Below w.heap.size w (w.alloc (Obj.cells #[.int .i64 14, .string nm, .int .i64 num, .int .i64 k1, .slice a1 n1 c1, .int .i64 k2, .slice a2 n2 c2, .int .i64 lb, .slice a3 ts.length c3] 34)) := (Below.refl _ _).alloc (Nat.le_refl _) _
  have HO1 := hid (blk hO hb0)
  have hMlt : M < w.heap.size := by omega
  have hMl : M < ((w.alloc (Obj.cells #[.int .i64 14, .string nm, .int .i64 num, .int .i64 k1, .slice a1 n1 c1, .int .i64 k2, .slice a2 n2 c2, .int .i64 lb, .slice a3 ts.length c3] 34))).heap.size := by simp; omega
  have yM : ((w.alloc (Obj.cells #[.int .i64 14, .string nm, .int .i64 num, .int .i64 k1, .slice a1 n1 c1, .int .i64 k2, .slice a2 n2 c2, .int .i64 lb, .slice a3 ts.length c3] 34))).cell? ⟨M, 0, none⟩ = some (.int .i64 (c : Int)) := by rw [cell_of_block HO1.out]; rfl
  have yF := fun o => frozen_of_block (o := o) HO1.out
  have HF := hid (cc_close (w := w) (Obj.cells #[.int .i64 14, .string nm, .int .i64 num, .int .i64 k1, .slice a1 n1 c1, .int .i64 k2, .slice a2 n2 c2, .int .i64 lb, .slice a3 ts.length c3] 34) hO hMB)
  have hc0 : (0 : Int) ≤ (c : Int) := by omega
  have hc1 : (c : Int) + 1 ≤ 4194301 := by simp only [id] at hlen; omega
  clear hat hO hown4 hfp
  go_enter Tryd.func59, Tryd.ntmps59
  go_wp2_with fail
  first | go_ret | go_end0 | skip
  obtain ⟨q1, q2⟩ := HF.out
  exact ⟨⟨_, rfl⟩, _, q1, q2⟩

set_option maxRecDepth 100000 in
set_option maxHeartbeats 2000000 in
theorem implCountCasts (t : Tm) (v : Value) (fp : List Nat) (w : World) (hsz : t.sz ≤ 1048576) (hF : Forms w) (hat : t.At w v fp) :
    Calls Tryd.prog 37 #[v] w fun e w' => e = .returned (.int .i64 ((ccO t : Nat) : Int)) ∧ Below w.heap.size w w' := by
  have hlt := hat.lt
  have HLT := hid hlt
  clear hlt
  have hat0 := hat
  obtain ⟨k, nm, num, k1, n1, a1, c1, k2, n2, a2, c2, lb, n3, a3, c3, rfl⟩ := hat.agg
  have hb0 : Below w.heap.size w (w.alloc (Obj.cells #[.int .i64 k, .string nm, .int .i64 num, .int .i64 k1, .slice a1 n1 c1, .int .i64 k2, .slice a2 n2 c2, .int .i64 lb, .slice a3 n3 c3] 34)) := (Below.refl _ _).alloc (Nat.le_refl _) _
  have HV := hid (implCastValid t _ _ _ (hF.below hb0) (hat0.below hb0))
  have HT := hid (show ccO t = if vldC t then ccN t else 0 from rfl)
  have HSH := hid (show vldC t = true → shpC 40 t = true from fun h => by unfold vldC at h; simp only [Bool.and_eq_true] at h; exact h.1)
  generalize ccO t = L at *
  generalize vldC t = r at *
  go_enter Tryd.func37, Tryd.ntmps37
  go_wp2_with fail
  refine HV.out.mono ?_
  rintro e w1 ⟨rfl, hb1⟩
  obtain ⟨z0, z1, z2, z3, z4, z5, z6, z7, z8⟩ := box9 hb1
  have b1 := below_trans hb0 hb1
  have hat2 := hat0.below b1
  have hal : Below w1.heap.size w1 (w1.alloc (Obj.cells #[.int .i64 0] 3)) := (Below.refl _ _).alloc (Nat.le_refl _) _
  cases r
  · go_wp2_with fail
    go_ret
    exact ⟨ret_i (by rw [HT.out]; rfl), b1⟩
  · have HSHP := hid (HSH.out rfl)
    replace z0 := cell_keep z0 hal
    replace z1 := cell_keep z1 hal
    replace z2 := cell_keep z2 hal
    replace z3 := cell_keep z3 hal
    replace z4 := cell_keep z4 hal
    replace z5 := cell_keep z5 hal
    replace z6 := cell_keep z6 hal
    replace z7 := cell_keep z7 hal
    replace z8 := cell_keep z8 hal
    have hs1 : (w1.alloc (Obj.cells #[.int .i64 0] 3)).heap.size = w1.heap.size + 1 := by simp
    have HL := hid (show CcAt w1.heap.size (w1.heap.size + 1) 0 (.int .u32 0) (w1.alloc (Obj.cells #[.int .i64 0] 3)) from ⟨alloc_new _ _, rfl, Nat.lt_succ_self _⟩)
    have HAT := hid (hat2.below hal)
    have HLT1 := hid (show ∀ x ∈ fp, x < w1.heap.size from fun x hx => Nat.lt_of_lt_of_le (HLT.out x hx) b1.size)
    have HS2 := hid (show id 0 + 2 * (t.sz + 1) ≤ 4194300 by simp only [id]; omega)
    have HB1 := hid b1
    have HAL := hid hal
    clear hat2 b1 hat hat0
    go_wp2_with fail
    refine (eachCast_any 59 #[.pointer (some ⟨w1.heap.size, 0, none⟩)] w1.heap.size (w1.heap.size + 1) (CcAt w1.heap.size (w1.heap.size + 1)) id ccStep callOk_cc (Nat.lt_succ_self _) ccStep_len
      (fun a v w w' h hb => h.below hb) (fun a v w h b e => by rw [h.2.1] at e; cases e) (visitCc w1.heap.size (w1.heap.size + 1))
      t 0 (.int .u32 0) _ fp 40 _ HL.out HAT.out HLT1.out HSHP.out (Nat.le_of_eq hs1.symm) hsz HS2.out).mono ?_
    rintro e w3 ⟨⟨r3, rfl⟩, v3, ⟨hO3, rfl, hMB⟩, hr3⟩
    have hc3 : w3.cell? ⟨w1.heap.size, 0, none⟩ = some (.int .i64 ((ecN ccStep 0 t : Nat) : Int)) := by rw [cell_of_block hO3]; rfl
    have HB3 := hid (hr3.below hMB (Nat.le_of_eq hs1.symm) (fun b hb => by cases hb))
    have hl3 := lt_of_block hO3
    have HFIN := hid (show Below w.heap.size w w3 from HB1.out.trans ((HAL.out.trans (HB3.out.mono (by omega))).mono HB1.out.size))
    clear hO3 hr3 z0 z1 z2 z3 z4 z5 z6 z7 z8
    go_wp2_with fail
    go_ret
    exact ⟨ret_i (by rw [HT.out]; rfl), HFIN.out⟩
end Go.Proofs.YtjpmlmdbldcbjaaDoor

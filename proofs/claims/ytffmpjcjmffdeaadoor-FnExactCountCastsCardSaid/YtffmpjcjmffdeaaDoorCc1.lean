/- The specification's CountCasts. -/
import Derived.Test.YtffmpjcjmffdeaaDoorCc0
import Derived.Test.YtffmpjcjmffdeaaDoorC4
namespace Go.Proofs.YtffmpjcjmffdeaaDoor
open Go.RowKit

def CcC (t : Tm) : Prop := ∀ (tv : Value) (fp : List Nat) (w : World), t.At w tv fp → t.sz ≤ 1048576 →
  Calls Tryd.prog 47 #[tv] w fun e w' => e = .returned (.int .i64 ((ccN t : Nat) : Int)) ∧ Below w.heap.size w w'

set_option linter.unusedSimpArgs false in
set_option maxRecDepth 100000 in
set_option maxHeartbeats 4000000 in
theorem l11Casts_of (k : Int) (nm : ByteArray) (num : Int) (ty fr : Ty) (lb : Int) (ts : List Tm) (ih : ∀ t ∈ ts, CcC t) : CcC (.mk k nm num ty fr lb ts) := by
  intro tv fp w hat hsz
  have HIH := hid ih
  clear ih
  obtain ⟨k1, n1, a1, c1, k2, n2, a2, c2, a3, c3, f1, f2, f3, rfl, hnm, ht1, ht2, rfl, hs⟩ := hat.parts
  obtain ⟨a, cap, hss, hc, hm, hget⟩ := hs.open
  cases hss
  have HG := hid hget
  have HSZ := hid (show ts.length + szML ts ≤ 1048576 by simp only [Tm.sz] at hsz; omega)
  have HEC := hid (show ccN (.mk k nm num ty fr lb ts) = ecL ccStep (if k = 14 then 1 else 0) ts by simp only [ccN, ecN, ccStep, Nat.zero_add])
  have hb0 : Below w.heap.size w (w.alloc (Obj.cells #[.int .i64 k, .string nm, .int .i64 num, .int .i64 k1, .slice a1 n1 c1, .int .i64 k2, .slice a2 n2 c2, .int .i64 lb, .slice a3 ts.length c3] 35)) := (Below.refl _ _).alloc (Nat.le_refl _) _
  obtain ⟨z0, z1, z2, z3, z4, z5, z6, z7, z8⟩ := box9 (Below.refl (w.alloc (Obj.cells #[.int .i64 k, .string nm, .int .i64 num, .int .i64 k1, .slice a1 n1 c1, .int .i64 k2, .slice a2 n2 c2, .int .i64 lb, .slice a3 ts.length c3] 35)).heap.size (w.alloc (Obj.cells #[.int .i64 k, .string nm, .int .i64 num, .int .i64 k1, .slice a1 n1 c1, .int .i64 k2, .slice a2 n2 c2, .int .i64 lb, .slice a3 ts.length c3] 35)))
  clear hget hat hsz hs ht1 ht2 hnm
  by_cases hk : k = 14
  · subst hk
    rw [if_pos rfl] at HEC
    go_enter Tryd.func47, Tryd.ntmps47
    go_wp2_with fail
    go_loopw [3, 4] (fun n i wr => ∃ (j : Nat), j ≤ ts.length ∧ i = .int .i64 j ∧ n = .int .i64 ((ecL ccStep 1 (ts.take j) : Nat) : Int) ∧ Below (w.alloc (Obj.cells #[.int .i64 14, .string nm, .int .i64 num, .int .i64 k1, .slice a1 n1 c1, .int .i64 k2, .slice a2 n2 c2, .int .i64 lb, .slice a3 ts.length c3] 35)).heap.size (w.alloc (Obj.cells #[.int .i64 14, .string nm, .int .i64 num, .int .i64 k1, .slice a1 n1 c1, .int .i64 k2, .slice a2 n2 c2, .int .i64 lb, .slice a3 ts.length c3] 35)) wr) (fun _ i _ => ts.length - (intOf i).toNat)
    case atStart => exact ⟨0, Nat.zero_le _, rfl, by simp [ecL], Below.refl _ _⟩
    case round =>
      obtain ⟨j, hj, rfl, rfl, hbr⟩ := hrel
      obtain ⟨z0, z1, z2, z3, z4, z5, z6, z7, z8⟩ := box9 hbr
      have HBR := hid hbr
      clear hbr
      by_cases hlk : j < ts.length
      · obtain ⟨b, o, q0, q1, q2, q3, q4, q5, q6, q7, q8, q9, q10, q11, q12, q13, q14, g1, hab, hblt, e0, e1, e2, e3, e4, e5, e6, e7, e8, hat, hf⟩ := HG.out j hlk
        subst hab
        have hbb := below_trans hb0 HBR.out
        have HAT := hid (hat.below hbb)
        replace e0 := cell_keep e0 hbb
        replace e1 := cell_keep e1 hbb
        replace e2 := cell_keep e2 hbb
        replace e3 := cell_keep e3 hbb
        replace e4 := cell_keep e4 hbb
        replace e5 := cell_keep e5 hbb
        replace e6 := cell_keep e6 hbb
        replace e7 := cell_keep e7 hbb
        replace e8 := cell_keep e8 hbb
        have HTK := hid (cc_take ts 1 j hlk)
        have hszj : ts[j].sz ≤ 1048576 := by have := HSZ.out; have := sz_mem (List.getElem_mem hlk); omega
        have hl2 : ecL ccStep 1 (ts.take j) + ccN ts[j] ≤ 4194300 := by
          have h1 := cc_takelen ts 1 j hlk
          have h2 := cc_len ts[j]
          have := HSZ.out
          omega
        have HL2 := hid hl2
        have HIH2 := hid (HIH.out _ (List.getElem_mem hlk) _ _ _ HAT.out hszj)
        generalize ecL ccStep 1 (ts.take j) = E at *
        generalize hC : ccN ts[j] = C at *
        have hE0 : (0 : Int) ≤ (E : Int) := by omega
        have hC0 : (0 : Int) ≤ (C : Int) := by omega
        have hEC : (E : Int) + (C : Int) ≤ 4194300 := by omega
        clear hat hf hl2 hbb hC
        go_wp2_with fail
        refine HIH2.out.mono ?_
        rintro e w4 ⟨rfl, hb5⟩
        have HB5 := hid (below_trans HBR.out hb5)
        clear hb5 e0 e1 e2 e3 e4 e5 e6 e7 e8 z0 z1 z2 z3 z4 z5 z6 z7 z8
        go_wp2_with fail
        go_roundw
        case rel => exact ⟨j + 1, by omega, by go_num, by rw [HTK.out]; simp, HB5.out⟩
        case measure => simp [intOf]; omega
      · have hz : ts.take j = ts := List.take_of_length_le (by omega)
        rw [hz]
        have HZ := hid hz
        clear hz
        go_wp2_with fail
        go_ret
        exact ⟨ret_i (by rw [HEC.out]), below_trans hb0 HBR.out⟩
  · rw [if_neg hk] at HEC
    have hk' : (k == 14) = false := by simpa using hk
    go_enter Tryd.func47, Tryd.ntmps47
    go_wp2_with fail
    go_loopw [3, 4] (fun n i wr => ∃ (j : Nat), j ≤ ts.length ∧ i = .int .i64 j ∧ n = .int .i64 ((ecL ccStep 0 (ts.take j) : Nat) : Int) ∧ Below (w.alloc (Obj.cells #[.int .i64 k, .string nm, .int .i64 num, .int .i64 k1, .slice a1 n1 c1, .int .i64 k2, .slice a2 n2 c2, .int .i64 lb, .slice a3 ts.length c3] 35)).heap.size (w.alloc (Obj.cells #[.int .i64 k, .string nm, .int .i64 num, .int .i64 k1, .slice a1 n1 c1, .int .i64 k2, .slice a2 n2 c2, .int .i64 lb, .slice a3 ts.length c3] 35)) wr) (fun _ i _ => ts.length - (intOf i).toNat)
    case atStart => exact ⟨0, Nat.zero_le _, rfl, by simp [ecL], Below.refl _ _⟩
    case round =>
      obtain ⟨j, hj, rfl, rfl, hbr⟩ := hrel
      obtain ⟨z0, z1, z2, z3, z4, z5, z6, z7, z8⟩ := box9 hbr
      have HBR := hid hbr
      clear hbr
      by_cases hlk : j < ts.length
      · obtain ⟨b, o, q0, q1, q2, q3, q4, q5, q6, q7, q8, q9, q10, q11, q12, q13, q14, g1, hab, hblt, e0, e1, e2, e3, e4, e5, e6, e7, e8, hat, hf⟩ := HG.out j hlk
        subst hab
        have hbb := below_trans hb0 HBR.out
        have HAT := hid (hat.below hbb)
        replace e0 := cell_keep e0 hbb
        replace e1 := cell_keep e1 hbb
        replace e2 := cell_keep e2 hbb
        replace e3 := cell_keep e3 hbb
        replace e4 := cell_keep e4 hbb
        replace e5 := cell_keep e5 hbb
        replace e6 := cell_keep e6 hbb
        replace e7 := cell_keep e7 hbb
        replace e8 := cell_keep e8 hbb
        have HTK := hid (cc_take ts 0 j hlk)
        have hszj : ts[j].sz ≤ 1048576 := by have := HSZ.out; have := sz_mem (List.getElem_mem hlk); omega
        have hl2 : ecL ccStep 0 (ts.take j) + ccN ts[j] ≤ 4194300 := by
          have h1 := cc_takelen ts 0 j hlk
          have h2 := cc_len ts[j]
          have := HSZ.out
          omega
        have HL2 := hid hl2
        have HIH2 := hid (HIH.out _ (List.getElem_mem hlk) _ _ _ HAT.out hszj)
        generalize ecL ccStep 0 (ts.take j) = E at *
        generalize hC : ccN ts[j] = C at *
        have hE0 : (0 : Int) ≤ (E : Int) := by omega
        have hC0 : (0 : Int) ≤ (C : Int) := by omega
        have hEC : (E : Int) + (C : Int) ≤ 4194300 := by omega
        clear hat hf hl2 hbb hC
        go_wp2_with fail
        refine HIH2.out.mono ?_
        rintro e w4 ⟨rfl, hb5⟩
        have HB5 := hid (below_trans HBR.out hb5)
        clear hb5 e0 e1 e2 e3 e4 e5 e6 e7 e8 z0 z1 z2 z3 z4 z5 z6 z7 z8
        go_wp2_with fail
        go_roundw
        case rel => exact ⟨j + 1, by omega, by go_num, by rw [HTK.out]; simp, HB5.out⟩
        case measure => simp [intOf]; omega
      · have hz : ts.take j = ts := List.take_of_length_le (by omega)
        rw [hz]
        have HZ := hid hz
        clear hz
        go_wp2_with fail
        go_ret
        exact ⟨ret_i (by rw [HEC.out]), below_trans hb0 HBR.out⟩

theorem l11Casts_any : ∀ t : Tm, CcC t := Tm.ind l11Casts_of

/-- The document's CountCasts. -/
def ccO (t : Tm) : Nat := if vldC t then ccN t else 0

set_option maxHeartbeats 1000000 in
theorem specCountCasts (t : Tm) (v : Value) (fp : List Nat) (w : World) (hsz : t.sz ≤ 1048576) (hat : t.At w v fp) :
    Calls Tryd.prog 11 #[v] w fun e w' => e = .returned (.int .i64 ((ccO t : Nat) : Int)) ∧ Below w.heap.size w w' := by
  have hat0 := hat
  obtain ⟨k, nm, num, k1, n1, a1, c1, k2, n2, a2, c2, lb, n3, a3, c3, rfl⟩ := hat.agg
  have hb0 : Below w.heap.size w (w.alloc (Obj.cells #[.int .i64 k, .string nm, .int .i64 num, .int .i64 k1, .slice a1 n1 c1, .int .i64 k2, .slice a2 n2 c2, .int .i64 lb, .slice a3 n3 c3] 35)) := (Below.refl _ _).alloc (Nat.le_refl _) _
  have HV := hid (specCastValid t _ _ _ hsz (hat0.below hb0))
  have HT := hid (show ccO t = if vldC t then ccN t else 0 from rfl)
  generalize ccO t = L at *
  generalize vldC t = r at *
  go_enter Tryd.func11, Tryd.ntmps11
  go_wp2_with fail
  refine HV.out.mono ?_
  rintro e w1 ⟨rfl, hb1⟩
  obtain ⟨z0, z1, z2, z3, z4, z5, z6, z7, z8⟩ := box9 hb1
  have b1 := below_trans hb0 hb1
  have hat2 := hat0.below b1
  cases r
  · go_wp2_with fail
    go_ret
    exact ⟨ret_i (by rw [HT.out]; rfl), b1⟩
  · have HC := hid (l11Casts_any t _ _ _ hat2 hsz)
    clear hat2 hat0 hat
    go_wp2_with fail
    refine HC.out.mono ?_
    rintro e w2 ⟨rfl, hb2⟩
    go_wp2_with fail
    go_ret
    exact ⟨ret_i (by rw [HT.out]; rfl), below_trans b1 hb2⟩
end Go.Proofs.YtffmpjcjmffdeaaDoor

/- IsValue, of both sides. -/
import Derived.Test.YtgekfnodmgkdaaaDoorSv4
import Derived.Test.YtgekfnodmgkdaaaDoorPkG
import Derived.Test.YtgekfnodmgkdaaaDoorC4
namespace Go.Proofs.YtgekfnodmgkdaaaDoor
open Go.RowKit

theorem cr_stays (w : World) : (method (Tryd.prog.types.size + Made.depth) 113 (.agg #[]) "loop.example/gradual/impl.stays").run Tryd.prog w = .ok (270, .agg #[]) w := by kernel_rfl

set_option maxHeartbeats 1000000 in
theorem stays_any (k : Int) (nm : ByteArray) (num : Int) (ty fr : Ty) (lb : Int) (ts : List Tm) (v : Value) (fp : List Nat) (w : World) (hat : Tm.At w (.mk k nm num ty fr lb ts) v fp) :
    Calls Tryd.prog 270 #[.agg #[], v] w fun e w' => e = .returned (.bool (staysB k ty fr)) ∧ Below w.heap.size w w' := by
  have hat0 := hat
  obtain ⟨k1, n1, a1, c1, k2, n2, a2, c2, a3, c3, f1, f2, f3, rfl, hnm, ht1, ht2, rfl, hs⟩ := hat.parts
  generalize hln : ts.length = n3 at *
  have hb0 : Below w.heap.size w ((w.alloc (Obj.cells #[] 113)).alloc (Obj.cells #[.int .i64 k, .string nm, .int .i64 num, .int .i64 k1, .slice a1 n1 c1, .int .i64 k2, .slice a2 n2 c2, .int .i64 lb, .slice a3 n3 c3] 35)) := ((Below.refl _ _).alloc (Nat.le_refl _) _).alloc (by simp) _
  have HB := hid hb0
  have HPX := hid (fun (kk : Int) (w' : World) (h : Below w.heap.size w w') => isProxy_any kk k nm num ty fr lb ts _ _ w' (hat0.below h))
  have HIJ := hid (fun (w' : World) (h : Below w.heap.size w w') => isInjection_any k nm num ty fr lb ts _ _ w' (hat0.below h))
  have HQ := hid (show staysB k ty fr = (proxB k ty fr 4 || proxB k ty fr 5 || injB k ty fr) from rfl)
  have HP4 := hid (HPX.out 4)
  have HP5 := hid (HPX.out 5)
  generalize proxB k ty fr 4 = p4 at *
  generalize proxB k ty fr 5 = p5 at *
  generalize injB k ty fr = ij at *
  generalize staysB k ty fr = sb at *
  have hX : ((w.alloc (Obj.cells #[] 113)).alloc (Obj.cells #[.int .i64 k, .string nm, .int .i64 num, .int .i64 k1, .slice a1 n1 c1, .int .i64 k2, .slice a2 n2 c2, .int .i64 lb, .slice a3 n3 c3] 35)).heap[w.heap.size + 1]? = some (Obj.cells #[.int .i64 k, .string nm, .int .i64 num, .int .i64 k1, .slice a1 n1 c1, .int .i64 k2, .slice a2 n2 c2, .int .i64 lb, .slice a3 n3 c3] 35) := by
    have hs : (w.alloc (Obj.cells #[] 113)).heap.size = w.heap.size + 1 := by simp
    rw [← hs]
    exact alloc_new _ _
  obtain ⟨z0, z1, z2, z3, z4, z5, z6, z7, z8⟩ := cells9 hX
  clear hat hat0 ht1 ht2 hs hb0 hX hnm hln
  go_enter Tryd.func270, Tryd.ntmps270
  go_wp2_with fail
  refine (HP4.out _ HB.out).mono ?_
  rintro e w1 ⟨rfl, hb1⟩
  replace z0 := cell_keep z0 hb1
  replace z1 := cell_keep z1 hb1
  replace z2 := cell_keep z2 hb1
  replace z3 := cell_keep z3 hb1
  replace z4 := cell_keep z4 hb1
  replace z5 := cell_keep z5 hb1
  replace z6 := cell_keep z6 hb1
  replace z7 := cell_keep z7 hb1
  replace z8 := cell_keep z8 hb1
  cases p4
  · go_wp2_with fail
    refine (HP5.out _ (below_trans HB.out hb1)).mono ?_
    rintro e w2 ⟨rfl, hb2⟩
    replace z0 := cell_keep z0 hb2
    replace z1 := cell_keep z1 hb2
    replace z2 := cell_keep z2 hb2
    replace z3 := cell_keep z3 hb2
    replace z4 := cell_keep z4 hb2
    replace z5 := cell_keep z5 hb2
    replace z6 := cell_keep z6 hb2
    replace z7 := cell_keep z7 hb2
    replace z8 := cell_keep z8 hb2
    cases p5
    · go_wp2_with fail
      refine (HIJ.out _ (below_trans (below_trans HB.out hb1) hb2)).mono ?_
      rintro e w3 ⟨rfl, hb3⟩
      go_wp2_with fail
      go_ret
      exact ⟨ret_b (by rw [HQ.out]; rfl), below_trans (below_trans (below_trans HB.out hb1) hb2) hb3⟩
    · go_wp2_with fail
      go_ret
      exact ⟨ret_b (by rw [HQ.out]; rfl), below_trans (below_trans HB.out hb1) hb2⟩
  · go_wp2_with fail
    go_ret
    exact ⟨ret_b (by rw [HQ.out]; rfl), below_trans HB.out hb1⟩

def IvC (t : Tm) : Prop := ∀ (v : Value) (fp : List Nat) (w : World), okN t = true → t.At w v fp →
  Calls Tryd.prog 90 #[v, (.iface 113 (.agg #[]))] w fun e w' => e = .returned (.bool (isV t)) ∧ Below w.heap.size w w'

set_option maxRecDepth 100000 in
set_option maxHeartbeats 4000000 in
theorem isValue_of (k : Int) (nm : ByteArray) (num : Int) (ty fr : Ty) (lb : Int) (ts : List Tm) (ih : ∀ t ∈ ts, IvC t) : IvC (.mk k nm num ty fr lb ts) := by
  intro v fp w hok hat
  have hat0 := hat
  obtain ⟨k1, n1, a1, c1, k2, n2, a2, c2, a3, c3, f1, f2, f3, rfl, hnm, ht1, ht2, rfl, hs⟩ := hat.parts
  generalize hln : ts.length = n3 at *
  obtain ⟨hk, h13, hown, hts⟩ := okN_kids hok
  have HCK := hid (fun i (h : i < ts.length) (v : Value) (f : List Nat) (w' : World) (hx : (ts.getD i zT).At w' v f) => ih _ (getD_mem h) v f w' (okNL_get hts h) hx)
  have hb0 : Below w.heap.size w (w.alloc (Obj.cells #[.int .i64 k, .string nm, .int .i64 num, .int .i64 k1, .slice a1 n1 c1, .int .i64 k2, .slice a2 n2 c2, .int .i64 lb, .slice a3 n3 c3] 35)) := (Below.refl _ _).alloc (Nat.le_refl _) _
  have HB := hid hb0
  have HS := hid hs
  have HATS := hid (fun (w' : World) (h : Below w.heap.size w w') => stays_any k nm num ty fr lb ts _ _ w' (hat0.below h))
  obtain ⟨z0, z1, z2, z3, z4, z5, z6, z7, z8⟩ := box9 (Below.refl (w.alloc (Obj.cells #[.int .i64 k, .string nm, .int .i64 num, .int .i64 k1, .slice a1 n1 c1, .int .i64 k2, .slice a2 n2 c2, .int .i64 lb, .slice a3 n3 c3] 35)).heap.size (w.alloc (Obj.cells #[.int .i64 k, .string nm, .int .i64 num, .int .i64 k1, .slice a1 n1 c1, .int .i64 k2, .slice a2 n2 c2, .int .i64 lb, .slice a3 n3 c3] 35)))
  clear hat hat0 ht1 ht2 hs hb0 hown hts hok hnm ih
  have HV := hid (show isV (.mk k nm num ty fr lb ts) = if k = 2 ∨ k = 3 ∨ k = 4 ∨ k = 5 then true else if k = 10 then isVL ts else staysB k ty fr && isVL ts by rw [isV])
  by_cases h2 : k = 2
  · have HR := hid (show isV (.mk k nm num ty fr lb ts) = true by rw [HV.out, if_pos (.inl h2)])
    subst h2
    go_enter Tryd.func90, Tryd.ntmps90
    go_wp2_with fail
    go_ret
    exact ⟨ret_b HR.out.symm, HB.out⟩
  by_cases h3 : k = 3
  · have HR := hid (show isV (.mk k nm num ty fr lb ts) = true by rw [HV.out, if_pos (.inr (.inl h3))])
    subst h3
    go_enter Tryd.func90, Tryd.ntmps90
    go_wp2_with fail
    go_ret
    exact ⟨ret_b HR.out.symm, HB.out⟩
  by_cases h4 : k = 4
  · have HR := hid (show isV (.mk k nm num ty fr lb ts) = true by rw [HV.out, if_pos (.inr (.inr (.inl h4)))])
    subst h4
    go_enter Tryd.func90, Tryd.ntmps90
    go_wp2_with fail
    go_ret
    exact ⟨ret_b HR.out.symm, HB.out⟩
  by_cases h5 : k = 5
  · have HR := hid (show isV (.mk k nm num ty fr lb ts) = true by rw [HV.out, if_pos (.inr (.inr (.inr h5)))])
    subst h5
    go_enter Tryd.func90, Tryd.ntmps90
    go_wp2_with fail
    go_ret
    exact ⟨ret_b HR.out.symm, HB.out⟩
  have hn : ¬ (k = 2 ∨ k = 3 ∨ k = 4 ∨ k = 5) := by omega
  have e2 : (k == 2) = false := by simpa using h2
  have e3 : (k == 3) = false := by simpa using h3
  have e4 : (k == 4) = false := by simpa using h4
  have e5 : (k == 5) = false := by simpa using h5
  by_cases h10 : k = 10
  · have hl := kids_two (ts := ts) (by rw [hk, hln]) (by omega)
    have HR := hid (show isV (.mk k nm num ty fr lb ts) = (isV (ts.getD 0 zT) && isV (ts.getD 1 zT)) by rw [HV.out, if_neg hn, if_pos h10, isVL_two hl])
    obtain rfl : n3 = 2 := by omega
    obtain ⟨b, o, j0, jn0, jm0, j1, i1, p1, d1, j2, i2, p2, d2, jl0, i3, p3, d3, g0, rfl, hblt, u0, u1, u2, u3, u4, u5, u6, u7, u8, hat0, -⟩ := sm_get (i := 0) HS.out (by omega)
    obtain ⟨b', o', y0, yn0, ym0, y1, q1, r1, s1, y2, q2, r2, s2, yl0, q3, r3, s3, g1, hbb, -, t0, t1, t2, t3, t4, t5, t6, t7, t8, hat1, -⟩ := sm_get (i := 1) HS.out (by omega)
    simp only [Option.some.injEq, Addr.mk.injEq, and_true] at hbb
    obtain ⟨rfl, rfl⟩ := hbb
    have HC0 := hid (fun (w' : World) (h : Below w.heap.size w w') => HCK.out 0 (by omega) _ _ w' (hat0.below h))
    have HC1 := hid (fun (w' : World) (h : Below w.heap.size w w') => HCK.out 1 (by omega) _ _ w' (hat1.below h))
    generalize isV (ts.getD 0 zT) = r0 at *
    generalize isV (ts.getD 1 zT) = r1' at *
    simp only [Nat.zero_mul, Nat.one_mul, Nat.add_zero] at u0 u1 u2 u3 u4 u5 u6 u7 u8 t0 t1 t2 t3 t4 t5 t6 t7 t8
    subst h10
    clear hat0 hat1 HCK HATS hl hln hk
    replace u0 := cell_keep u0 HB.out
    replace u1 := cell_keep u1 HB.out
    replace u2 := cell_keep u2 HB.out
    replace u3 := cell_keep u3 HB.out
    replace u4 := cell_keep u4 HB.out
    replace u5 := cell_keep u5 HB.out
    replace u6 := cell_keep u6 HB.out
    replace u7 := cell_keep u7 HB.out
    replace u8 := cell_keep u8 HB.out
    replace t0 := cell_keep t0 HB.out
    replace t1 := cell_keep t1 HB.out
    replace t2 := cell_keep t2 HB.out
    replace t3 := cell_keep t3 HB.out
    replace t4 := cell_keep t4 HB.out
    replace t5 := cell_keep t5 HB.out
    replace t6 := cell_keep t6 HB.out
    replace t7 := cell_keep t7 HB.out
    replace t8 := cell_keep t8 HB.out
    go_enter Tryd.func90, Tryd.ntmps90
    go_wp2_with fail
    refine (HC0.out _ HB.out).mono ?_
    rintro e w1 ⟨rfl, hb1⟩
    cases r0
    · go_wp2_with fail
      go_ret
      exact ⟨ret_b (by rw [HR.out]; rfl), below_trans HB.out hb1⟩
    ·
      replace z0 := cell_keep z0 hb1
      replace z1 := cell_keep z1 hb1
      replace z2 := cell_keep z2 hb1
      replace z3 := cell_keep z3 hb1
      replace z4 := cell_keep z4 hb1
      replace z5 := cell_keep z5 hb1
      replace z6 := cell_keep z6 hb1
      replace z7 := cell_keep z7 hb1
      replace z8 := cell_keep z8 hb1
      replace t0 := cell_keep t0 hb1
      replace t1 := cell_keep t1 hb1
      replace t2 := cell_keep t2 hb1
      replace t3 := cell_keep t3 hb1
      replace t4 := cell_keep t4 hb1
      replace t5 := cell_keep t5 hb1
      replace t6 := cell_keep t6 hb1
      replace t7 := cell_keep t7 hb1
      replace t8 := cell_keep t8 hb1
      go_wp2_with fail
      refine (HC1.out _ (below_trans HB.out hb1)).mono ?_
      rintro e w2 ⟨rfl, hb2⟩
      go_wp2_with fail
      go_ret
      exact ⟨ret_b (by rw [HR.out]; rfl), below_trans HB.out (below_trans hb1 hb2)⟩
  have e10 : (k == 10) = false := by simpa using h10
  have HR := hid (show isV (.mk k nm num ty fr lb ts) = (staysB k ty fr && isVL ts) by rw [HV.out, if_neg hn, if_neg h10])
  by_cases h14 : k = 14
  case neg =>
    have e14 : (k == 14) = false := by simpa using h14
    have HR2 := hid (show isV (.mk k nm num ty fr lb ts) = false by rw [HR.out]; simp only [staysB, proxB, injB, e14]; rfl)
    go_enter Tryd.func90, Tryd.ntmps90
    go_wp2_with fail
    go_ret
    exact ⟨ret_b HR2.out.symm, HB.out⟩
  have HST := hid (fun (w' : World) (h : Below w.heap.size w w') => HATS.out w' h)
  generalize staysB k ty fr = sb at *
  have hl := kids_one (ts := ts) (by rw [hk, hln]) (by omega)
  rw [isVL_one hl] at HR
  obtain rfl : n3 = 1 := by omega
  obtain ⟨b, o, j0, jn0, jm0, j1, i1, p1, d1, j2, i2, p2, d2, jl0, i3, p3, d3, g0, rfl, hblt, u0, u1, u2, u3, u4, u5, u6, u7, u8, hat0, -⟩ := sm_get (i := 0) HS.out (by omega)
  have HC0 := hid (fun (w' : World) (h : Below w.heap.size w w') => HCK.out 0 (by omega) _ _ w' (hat0.below h))
  generalize isV (ts.getD 0 zT) = r0 at *
  simp only [Nat.zero_mul, Nat.add_zero] at u0 u1 u2 u3 u4 u5 u6 u7 u8
  subst h14
  clear hat0 HCK hl hln hk HV hn
  replace u0 := cell_keep u0 HB.out
  replace u1 := cell_keep u1 HB.out
  replace u2 := cell_keep u2 HB.out
  replace u3 := cell_keep u3 HB.out
  replace u4 := cell_keep u4 HB.out
  replace u5 := cell_keep u5 HB.out
  replace u6 := cell_keep u6 HB.out
  replace u7 := cell_keep u7 HB.out
  replace u8 := cell_keep u8 HB.out
  have hm := cr_stays
  go_enter Tryd.func90, Tryd.ntmps90
  go_wp2_with fail
  refine (HST.out _ HB.out).mono ?_
  rintro e w1 ⟨rfl, hb1⟩
  replace z0 := cell_keep z0 hb1
  replace z1 := cell_keep z1 hb1
  replace z2 := cell_keep z2 hb1
  replace z3 := cell_keep z3 hb1
  replace z4 := cell_keep z4 hb1
  replace z5 := cell_keep z5 hb1
  replace z6 := cell_keep z6 hb1
  replace z7 := cell_keep z7 hb1
  replace z8 := cell_keep z8 hb1
  replace u0 := cell_keep u0 hb1
  replace u1 := cell_keep u1 hb1
  replace u2 := cell_keep u2 hb1
  replace u3 := cell_keep u3 hb1
  replace u4 := cell_keep u4 hb1
  replace u5 := cell_keep u5 hb1
  replace u6 := cell_keep u6 hb1
  replace u7 := cell_keep u7 hb1
  replace u8 := cell_keep u8 hb1
  cases sb
  · go_wp2_with fail
    go_ret
    exact ⟨ret_b (by rw [HR.out]; rfl), below_trans HB.out hb1⟩
  · go_wp2_with fail
    refine (HC0.out _ (below_trans HB.out hb1)).mono ?_
    rintro e w9 ⟨rfl, hb9⟩
    go_wp2_with fail
    go_ret
    exact ⟨ret_b (by rw [HR.out]; simp), below_trans (below_trans HB.out hb1) hb9⟩

theorem isValue_any : ∀ t : Tm, IvC t := Tm.ind isValue_of

set_option maxHeartbeats 1000000 in
theorem specIsValue (t : Tm) (v : Value) (fp : List Nat) (w : World) (hsz : t.sz ≤ 1048576) (hat : t.At w v fp) :
    Calls Tryd.prog 38 #[v] w fun e w' => e = .returned (.bool (vldC t && isV t)) ∧ Below w.heap.size w w' := by
  have hat0 := hat
  obtain ⟨k, nm, num, k1, n1, a1, c1, k2, n2, a2, c2, lb, n3, a3, c3, rfl⟩ := hat.agg
  have hb0 : Below w.heap.size w (w.alloc (Obj.cells #[.int .i64 k, .string nm, .int .i64 num, .int .i64 k1, .slice a1 n1 c1, .int .i64 k2, .slice a2 n2 c2, .int .i64 lb, .slice a3 n3 c3] 35)) := (Below.refl _ _).alloc (Nat.le_refl _) _
  have HCV := hid (specCastValid t _ _ _ hsz (hat0.below hb0))
  have HV := hid (fun (w' : World) (h : Below w.heap.size w w') (hv : vldC t = true) => l5Value_any t _ _ w' (vldC_out hv).1 (hat0.below h))
  have HB := hid hb0
  generalize vldC t = cv at *
  generalize isV t = iv at *
  clear hat hat0 hb0
  go_enter Tryd.func38, Tryd.ntmps38
  go_wp2_with fail
  refine HCV.out.mono ?_
  rintro e w1 ⟨rfl, hb1⟩
  obtain ⟨z0, z1, z2, z3, z4, z5, z6, z7, z8⟩ := box9 hb1
  have HB1 := hid (below_trans HB.out hb1)
  cases cv
  · go_wp2_with fail
    go_ret
    exact ⟨rfl, HB1.out⟩
  · go_wp2_with fail
    refine (HV.out _ HB1.out (by simp)).mono ?_
    rintro e w2 ⟨rfl, hb2⟩
    go_wp2_with fail
    go_ret
    exact ⟨rfl, below_trans HB1.out hb2⟩

set_option maxHeartbeats 1000000 in
theorem implIsValue (t : Tm) (v : Value) (fp : List Nat) (w : World) (hF : Forms w) (hat : t.At w v fp) :
    Calls Tryd.prog 39 #[v] w fun e w' => e = .returned (.bool (vldC t && isV t)) ∧ Below w.heap.size w w' := by
  have hat0 := hat
  obtain ⟨k, nm, num, k1, n1, a1, c1, k2, n2, a2, c2, lb, n3, a3, c3, rfl⟩ := hat.agg
  have hb0 : Below w.heap.size w (w.alloc (Obj.cells #[.int .i64 k, .string nm, .int .i64 num, .int .i64 k1, .slice a1 n1 c1, .int .i64 k2, .slice a2 n2 c2, .int .i64 lb, .slice a3 n3 c3] 35)) := (Below.refl _ _).alloc (Nat.le_refl _) _
  have HCV := hid (implCastValid t _ _ _ (hF.below hb0) (hat0.below hb0))
  have HV := hid (fun (w' : World) (h : Below w.heap.size w w') (hv : vldC t = true) => isValue_any t _ _ w' (vldC_out hv).1 (hat0.below h))
  have HB := hid hb0
  generalize vldC t = cv at *
  generalize isV t = iv at *
  clear hat hat0 hb0
  go_enter Tryd.func39, Tryd.ntmps39
  go_wp2_with fail
  refine HCV.out.mono ?_
  rintro e w1 ⟨rfl, hb1⟩
  obtain ⟨z0, z1, z2, z3, z4, z5, z6, z7, z8⟩ := box9 hb1
  have HB1 := hid (below_trans HB.out hb1)
  cases cv
  · go_wp2_with fail
    go_ret
    exact ⟨rfl, HB1.out⟩
  · go_wp2_with fail
    refine (HV.out _ HB1.out (by simp)).mono ?_
    rintro e w2 ⟨rfl, hb2⟩
    go_wp2_with fail
    go_ret
    exact ⟨rfl, below_trans HB1.out hb2⟩

end Go.Proofs.YtgekfnodmgkdaaaDoor

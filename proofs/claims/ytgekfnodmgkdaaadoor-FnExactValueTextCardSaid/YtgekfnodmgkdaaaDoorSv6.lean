/- ValueText, of both sides. -/
import Derived.Test.YtgekfnodmgkdaaaDoorIv5
import Derived.Test.YtgekfnodmgkdaaaDoorXtG
import Derived.Deep.LoopGhost
namespace Go.Proofs.YtgekfnodmgkdaaaDoor
open Go.RowKit

def pairS : List UInt8 := [112, 97, 105, 114]
def funS : List UInt8 := [102, 117, 110, 99, 116, 105, 111, 110]

mutual
/-- The text of what can be observed of a value. -/
def vtx : Tm → List UInt8
  | .mk k _ num ty fr _ ts => if k = 2 then Lib.decDigits num.toNat else if k = 3 then [84] else if k = 4 then [70] else if k = 10 ∨ proxB k ty fr 5 = true then pairS else if injB k ty fr = true then vtxL ts else funS
def vtxL : List Tm → List UInt8
  | [] => []
  | t :: _ => vtx t
end

theorem vtxL_one {ts : List Tm} (h : ts.length = 1) : vtxL ts = vtx (ts.getD 0 zT) := by
  match ts, h with
  | [a], _ => simp [vtxL]

theorem prox_or (k : Int) (ty fr : Ty) : ((k == 14 && (kindT fr == kindT ty && (kindT fr == 4 || kindT fr == 5))) && kindT fr == 5) = proxB k ty fr 5 := by
  unfold proxB
  generalize kindT ty = a
  generalize kindT fr = b
  rw [Bool.eq_iff_iff]
  simp only [Bool.or_eq_true, Bool.and_eq_true, beq_iff_eq]
  constructor
  · rintro ⟨⟨h, h1, h2⟩, h3⟩
    exact ⟨h, h3, by omega⟩
  · rintro ⟨h, h1, h2⟩
    exact ⟨⟨h, by omega, .inr h1⟩, h1⟩

def LxC (t : Tm) : Prop := ∀ (v : Value) (fp : List Nat) (w : World), okN t = true → t.At w v fp →
  Calls Tryd.prog 91 #[v] w fun e w' => e = .returned (.string ⟨(vtx t).toArray⟩) ∧ Below w.heap.size w w'

set_option maxRecDepth 100000 in
set_option maxHeartbeats 4000000 in
theorem l5Text_of (k : Int) (nm : ByteArray) (num : Int) (ty fr : Ty) (lb : Int) (ts : List Tm) (ih : ∀ t ∈ ts, LxC t) : LxC (.mk k nm num ty fr lb ts) := by
  intro v fp w hok hat
  have hat0 := hat
  obtain ⟨k1, n1, a1, c1, k2, n2, a2, c2, a3, c3, f1, f2, f3, rfl, hnm, ht1, ht2, rfl, hs⟩ := hat.parts
  generalize hln : ts.length = n3 at *
  obtain ⟨hk, h13, hown, hts⟩ := okN_kids hok
  have HCK := hid (fun i (h : i < ts.length) (v : Value) (f : List Nat) (w' : World) (hx : (ts.getD i zT).At w' v f) => ih _ (getD_mem h) v f w' (okNL_get hts h) hx)
  have hfr : k = 14 → vld fr = true := fun h => by rw [if_pos h] at hown; exact (own4_out hown).2.2.1
  have HNUM := hid (fun h : k = 2 => num_rng (h ▸ hok))
  have hb0 : Below w.heap.size w (w.alloc (Obj.cells #[.int .i64 k, .string nm, .int .i64 num, .int .i64 k1, .slice a1 n1 c1, .int .i64 k2, .slice a2 n2 c2, .int .i64 lb, .slice a3 n3 c3] 35)) := (Below.refl _ _).alloc (Nat.le_refl _) _
  have HB := hid hb0
  have HS := hid hs
  have HPX := hid (fun (w' : World) (h : Below w.heap.size w w') => l5Proxy_any k nm num ty fr lb ts _ _ w' (hat0.below h))
  have HIJ := hid (fun (w' : World) (h : Below w.heap.size w w') => l5Inject_any k nm num ty fr lb ts _ _ w' (hat0.below h) hfr)
  have HK2 := hid ht2.kind
  obtain ⟨z0, z1, z2, z3, z4, z5, z6, z7, z8⟩ := box9 (Below.refl (w.alloc (Obj.cells #[.int .i64 k, .string nm, .int .i64 num, .int .i64 k1, .slice a1 n1 c1, .int .i64 k2, .slice a2 n2 c2, .int .i64 lb, .slice a3 n3 c3] 35)).heap.size (w.alloc (Obj.cells #[.int .i64 k, .string nm, .int .i64 num, .int .i64 k1, .slice a1 n1 c1, .int .i64 k2, .slice a2 n2 c2, .int .i64 lb, .slice a3 n3 c3] 35)))
  clear hat hat0 ht1 ht2 hs hb0 hown hts hok hnm hfr ih
  have HV := hid (show vtx (.mk k nm num ty fr lb ts) = if k = 2 then Lib.decDigits num.toNat else if k = 3 then [84] else if k = 4 then [70] else if k = 10 ∨ proxB k ty fr 5 = true then pairS else if injB k ty fr = true then vtxL ts else funS by rw [vtx])
  by_cases h2 : k = 2
  · obtain ⟨m, hm⟩ : ∃ m : Nat, num = (m : Int) := ⟨num.toNat, by have := HNUM.out h2; omega⟩
    have hm2 : m ≤ 9999 := by have := HNUM.out h2; omega
    have HR := hid (show vtx (.mk k nm num ty fr lb ts) = Lib.decDigits m by rw [HV.out, if_pos h2, hm]; simp)
    subst h2
    subst hm
    clear HNUM
    have HL := hid (fun w' => l18Dec_nat m hm2 w')
    rw [← HR.out] at HL
    generalize (⟨(vtx (.mk 2 nm (m : Int) ty fr lb ts)).toArray⟩ : ByteArray) = r at *
    go_enter Tryd.func91, Tryd.ntmps91
    go_wp2_with fail
    refine (HL.out _).mono ?_
    rintro e w1 ⟨rfl, hb1⟩
    go_wp2_with fail
    go_ret
    exact ⟨rfl, below_trans HB.out hb1⟩
  by_cases h3 : k = 3
  · have HR := hid (show vtx (.mk k nm num ty fr lb ts) = [84] by rw [HV.out, if_neg h2, if_pos h3])
    subst h3
    go_enter Tryd.func91, Tryd.ntmps91
    go_wp2_with fail
    go_ret
    exact ⟨ret_s (by rw [HR.out]), HB.out⟩
  by_cases h4 : k = 4
  · have HR := hid (show vtx (.mk k nm num ty fr lb ts) = [70] by rw [HV.out, if_neg h2, if_neg h3, if_pos h4])
    subst h4
    go_enter Tryd.func91, Tryd.ntmps91
    go_wp2_with fail
    go_ret
    exact ⟨ret_s (by rw [HR.out]), HB.out⟩
  have e2 : (k == 2) = false := by simpa using h2
  have e3 : (k == 3) = false := by simpa using h3
  have e4 : (k == 4) = false := by simpa using h4
  by_cases h10 : k = 10
  · have HR := hid (show vtx (.mk k nm num ty fr lb ts) = pairS by rw [HV.out, if_neg h2, if_neg h3, if_neg h4, if_pos (.inl h10)])
    subst h10
    go_enter Tryd.func91, Tryd.ntmps91
    go_wp2_with fail
    go_ret
    exact ⟨ret_s (by rw [HR.out]; rfl), HB.out⟩
  have e10 : (k == 10) = false := by simpa using h10
  have HPO := hid (prox_or k ty fr)
  rw [HK2.out] at HPO
  generalize hpx : (k == 14 && (kindT fr == kindT ty && (kindT fr == 4 || kindT fr == 5))) = px at *
  rw [HK2.out] at hpx
  rw [hpx] at HPO
  clear hpx
  by_cases hp5 : proxB k ty fr 5 = true
  · have HR := hid (show vtx (.mk k nm num ty fr lb ts) = pairS by rw [HV.out, if_neg h2, if_neg h3, if_neg h4, if_pos (.inr hp5)])
    have hb2 : px = true ∧ k2 = 5 := by have := HPO.out; rw [hp5] at this; simpa using this
    obtain ⟨rfl, rfl⟩ := hb2
    go_enter Tryd.func91, Tryd.ntmps91
    go_wp2_with fail
    refine (HPX.out _ HB.out).mono ?_
    rintro e w1 ⟨rfl, hb1⟩
    replace z0 := cell_keep z0 hb1
    replace z1 := cell_keep z1 hb1
    replace z2 := cell_keep z2 hb1
    replace z3 := cell_keep z3 hb1
    replace z4 := cell_keep z4 hb1
    replace z5 := cell_keep z5 hb1
    replace z6 := cell_keep z6 hb1
    replace z7 := cell_keep z7 hb1
    replace z8 := cell_keep z8 hb1
    go_wp2_with fail
    go_ret
    exact ⟨ret_s (by rw [HR.out]; rfl), below_trans HB.out hb1⟩
  have HPF := hid (show (px && k2 == 5) = false by rw [HPO.out]; simpa using hp5)
  have HR0 := hid (show vtx (.mk k nm num ty fr lb ts) = if injB k ty fr = true then vtxL ts else funS by rw [HV.out, if_neg h2, if_neg h3, if_neg h4, if_neg (by rintro (h | h); exact h10 h; exact hp5 h)])
  have H14I := hid (show injB k ty fr = true → k = 14 by intro h; simp only [injB, Bool.and_eq_true, beq_iff_eq] at h; exact h.1)
  generalize injB k ty fr = ij at *
  clear HV HPO hp5
  cases ij
  · have HR := hid (show vtx (.mk k nm num ty fr lb ts) = funS by rw [HR0.out]; rfl)
    cases px
    · go_enter Tryd.func91, Tryd.ntmps91
      go_wp2_with fail
      refine (HPX.out _ HB.out).mono ?_
      rintro e w1 ⟨rfl, hb1⟩
      replace z0 := cell_keep z0 hb1
      replace z1 := cell_keep z1 hb1
      replace z2 := cell_keep z2 hb1
      replace z3 := cell_keep z3 hb1
      replace z4 := cell_keep z4 hb1
      replace z5 := cell_keep z5 hb1
      replace z6 := cell_keep z6 hb1
      replace z7 := cell_keep z7 hb1
      replace z8 := cell_keep z8 hb1
      go_wp2_with fail
      refine (HIJ.out _ (below_trans HB.out hb1)).mono ?_
      rintro e w2 ⟨rfl, hb2⟩
      replace z0 := cell_keep z0 hb2
      replace z1 := cell_keep z1 hb2
      replace z2 := cell_keep z2 hb2
      replace z3 := cell_keep z3 hb2
      replace z4 := cell_keep z4 hb2
      replace z5 := cell_keep z5 hb2
      replace z6 := cell_keep z6 hb2
      replace z7 := cell_keep z7 hb2
      replace z8 := cell_keep z8 hb2
      go_wp2_with fail
      go_ret
      exact ⟨ret_s (by rw [HR.out]; rfl), below_trans HB.out (below_trans hb1 hb2)⟩
    · have h5 : (k2 == 5) = false := by simpa using HPF.out
      go_enter Tryd.func91, Tryd.ntmps91
      go_wp2_with fail
      refine (HPX.out _ HB.out).mono ?_
      rintro e w1 ⟨rfl, hb1⟩
      replace z0 := cell_keep z0 hb1
      replace z1 := cell_keep z1 hb1
      replace z2 := cell_keep z2 hb1
      replace z3 := cell_keep z3 hb1
      replace z4 := cell_keep z4 hb1
      replace z5 := cell_keep z5 hb1
      replace z6 := cell_keep z6 hb1
      replace z7 := cell_keep z7 hb1
      replace z8 := cell_keep z8 hb1
      go_wp2_with fail
      refine (HIJ.out _ (below_trans HB.out hb1)).mono ?_
      rintro e w2 ⟨rfl, hb2⟩
      replace z0 := cell_keep z0 hb2
      replace z1 := cell_keep z1 hb2
      replace z2 := cell_keep z2 hb2
      replace z3 := cell_keep z3 hb2
      replace z4 := cell_keep z4 hb2
      replace z5 := cell_keep z5 hb2
      replace z6 := cell_keep z6 hb2
      replace z7 := cell_keep z7 hb2
      replace z8 := cell_keep z8 hb2
      go_wp2_with fail
      go_ret
      exact ⟨ret_s (by rw [HR.out]; rfl), below_trans HB.out (below_trans hb1 hb2)⟩
  · have hl := kids_one (ts := ts) (by rw [hk, hln]) (by have := H14I.out rfl; omega)
    have HR := hid (show vtx (.mk k nm num ty fr lb ts) = vtx (ts.getD 0 zT) by rw [HR0.out, vtxL_one hl]; rfl)
    obtain rfl : n3 = 1 := by omega
    obtain ⟨b, o, j0, jn0, jm0, j1, i1, p1, d1, j2, i2, p2, d2, jl0, i3, p3, d3, g0, rfl, hblt, u0, u1, u2, u3, u4, u5, u6, u7, u8, hat0, -⟩ := sm_get (i := 0) HS.out (by omega)
    have HC0 := hid (fun (w' : World) (h : Below w.heap.size w w') => HCK.out 0 (by omega) _ _ w' (hat0.below h))
    rw [← HR.out] at HC0
    generalize (⟨(vtx (.mk k nm num ty fr lb ts)).toArray⟩ : ByteArray) = r0 at *
    simp only [Nat.zero_mul, Nat.add_zero] at u0 u1 u2 u3 u4 u5 u6 u7 u8
    clear hat0 HCK hl hln hk
    replace u0 := cell_keep u0 HB.out
    replace u1 := cell_keep u1 HB.out
    replace u2 := cell_keep u2 HB.out
    replace u3 := cell_keep u3 HB.out
    replace u4 := cell_keep u4 HB.out
    replace u5 := cell_keep u5 HB.out
    replace u6 := cell_keep u6 HB.out
    replace u7 := cell_keep u7 HB.out
    replace u8 := cell_keep u8 HB.out
    cases px
    · go_enter Tryd.func91, Tryd.ntmps91
      go_wp2_with fail
      refine (HPX.out _ HB.out).mono ?_
      rintro e w1 ⟨rfl, hb1⟩
      replace z0 := cell_keep z0 hb1
      replace z1 := cell_keep z1 hb1
      replace z2 := cell_keep z2 hb1
      replace z3 := cell_keep z3 hb1
      replace z4 := cell_keep z4 hb1
      replace z5 := cell_keep z5 hb1
      replace z6 := cell_keep z6 hb1
      replace z7 := cell_keep z7 hb1
      replace z8 := cell_keep z8 hb1
      replace u0 := cell_keep u0 hb1
      replace u1 := cell_keep u1 hb1
      replace u2 := cell_keep u2 hb1
      replace u3 := cell_keep u3 hb1
      replace u4 := cell_keep u4 hb1
      replace u5 := cell_keep u5 hb1
      replace u6 := cell_keep u6 hb1
      replace u7 := cell_keep u7 hb1
      replace u8 := cell_keep u8 hb1
      go_wp2_with fail
      refine (HIJ.out _ (below_trans HB.out hb1)).mono ?_
      rintro e w2 ⟨rfl, hb2⟩
      replace z0 := cell_keep z0 hb2
      replace z1 := cell_keep z1 hb2
      replace z2 := cell_keep z2 hb2
      replace z3 := cell_keep z3 hb2
      replace z4 := cell_keep z4 hb2
      replace z5 := cell_keep z5 hb2
      replace z6 := cell_keep z6 hb2
      replace z7 := cell_keep z7 hb2
      replace z8 := cell_keep z8 hb2
      replace u0 := cell_keep u0 hb2
      replace u1 := cell_keep u1 hb2
      replace u2 := cell_keep u2 hb2
      replace u3 := cell_keep u3 hb2
      replace u4 := cell_keep u4 hb2
      replace u5 := cell_keep u5 hb2
      replace u6 := cell_keep u6 hb2
      replace u7 := cell_keep u7 hb2
      replace u8 := cell_keep u8 hb2
      go_wp2_with fail
      refine (HC0.out _ (below_trans HB.out (below_trans hb1 hb2))).mono ?_
      rintro e w3 ⟨rfl, hb3⟩
      go_wp2_with fail
      go_ret
      exact ⟨rfl, below_trans HB.out (below_trans hb1 (below_trans hb2 hb3))⟩
    · have h5 : (k2 == 5) = false := by simpa using HPF.out
      go_enter Tryd.func91, Tryd.ntmps91
      go_wp2_with fail
      refine (HPX.out _ HB.out).mono ?_
      rintro e w1 ⟨rfl, hb1⟩
      replace z0 := cell_keep z0 hb1
      replace z1 := cell_keep z1 hb1
      replace z2 := cell_keep z2 hb1
      replace z3 := cell_keep z3 hb1
      replace z4 := cell_keep z4 hb1
      replace z5 := cell_keep z5 hb1
      replace z6 := cell_keep z6 hb1
      replace z7 := cell_keep z7 hb1
      replace z8 := cell_keep z8 hb1
      replace u0 := cell_keep u0 hb1
      replace u1 := cell_keep u1 hb1
      replace u2 := cell_keep u2 hb1
      replace u3 := cell_keep u3 hb1
      replace u4 := cell_keep u4 hb1
      replace u5 := cell_keep u5 hb1
      replace u6 := cell_keep u6 hb1
      replace u7 := cell_keep u7 hb1
      replace u8 := cell_keep u8 hb1
      go_wp2_with fail
      refine (HIJ.out _ (below_trans HB.out hb1)).mono ?_
      rintro e w2 ⟨rfl, hb2⟩
      replace z0 := cell_keep z0 hb2
      replace z1 := cell_keep z1 hb2
      replace z2 := cell_keep z2 hb2
      replace z3 := cell_keep z3 hb2
      replace z4 := cell_keep z4 hb2
      replace z5 := cell_keep z5 hb2
      replace z6 := cell_keep z6 hb2
      replace z7 := cell_keep z7 hb2
      replace z8 := cell_keep z8 hb2
      replace u0 := cell_keep u0 hb2
      replace u1 := cell_keep u1 hb2
      replace u2 := cell_keep u2 hb2
      replace u3 := cell_keep u3 hb2
      replace u4 := cell_keep u4 hb2
      replace u5 := cell_keep u5 hb2
      replace u6 := cell_keep u6 hb2
      replace u7 := cell_keep u7 hb2
      replace u8 := cell_keep u8 hb2
      go_wp2_with fail
      refine (HC0.out _ (below_trans HB.out (below_trans hb1 hb2))).mono ?_
      rintro e w3 ⟨rfl, hb3⟩
      go_wp2_with fail
      go_ret
      exact ⟨rfl, below_trans HB.out (below_trans hb1 (below_trans hb2 hb3))⟩

theorem l5Text_any : ∀ t : Tm, LxC t := Tm.ind l5Text_of

def valS (t : Tm) : List UInt8 := if (vldC t && isV t) = true then vtx t else []

set_option maxHeartbeats 1000000 in
theorem specValueText (t : Tm) (v : Value) (fp : List Nat) (w : World) (hsz : t.sz ≤ 1048576) (hat : t.At w v fp) :
    Calls Tryd.prog 40 #[v] w fun e w' => e = .returned (.string ⟨(valS t).toArray⟩) ∧ Below w.heap.size w w' := by
  have hat0 := hat
  obtain ⟨k, nm, num, k1, n1, a1, c1, k2, n2, a2, c2, lb, n3, a3, c3, rfl⟩ := hat.agg
  have hb0 : Below w.heap.size w (w.alloc (Obj.cells #[.int .i64 k, .string nm, .int .i64 num, .int .i64 k1, .slice a1 n1 c1, .int .i64 k2, .slice a2 n2 c2, .int .i64 lb, .slice a3 n3 c3] 35)) := (Below.refl _ _).alloc (Nat.le_refl _) _
  have HIV := hid (specIsValue t _ _ _ hsz (hat0.below hb0))
  have HV := hid (fun (w' : World) (h : Below w.heap.size w w') (hv : (vldC t && isV t) = true) => l5Text_any t _ _ w' (vldC_out (Bool.and_eq_true _ _ ▸ hv).1).1 (hat0.below h))
  have HE := hid (show valS t = if (vldC t && isV t) = true then vtx t else [] from rfl)
  have HB := hid hb0
  generalize (vldC t && isV t) = cv at *
  clear hat hat0 hb0
  go_enter Tryd.func40, Tryd.ntmps40
  go_wp2_with fail
  refine HIV.out.mono ?_
  rintro e w1 ⟨rfl, hb1⟩
  obtain ⟨z0, z1, z2, z3, z4, z5, z6, z7, z8⟩ := box9 hb1
  have HB1 := hid (below_trans HB.out hb1)
  cases cv
  · go_wp2_with fail
    go_ret
    exact ⟨ret_s (by rw [HE.out]; rfl), HB1.out⟩
  · have HE2 := hid (show valS t = vtx t by rw [HE.out]; rfl)
    have HVV := hid (HV.out _ HB1.out (by simp))
    rw [← HE2.out] at HVV
    obtain ⟨r, hr⟩ : ∃ r : ByteArray, r = ⟨(valS t).toArray⟩ := ⟨_, rfl⟩
    rw [← hr] at HVV
    have HRR := hid hr
    clear hr
    go_wp2_with fail
    refine HVV.out.mono ?_
    rintro e w2 ⟨rfl, hb2⟩
    go_wp2_with fail
    go_ret
    exact ⟨ret_s HRR.out, below_trans HB1.out hb2⟩
end Go.Proofs.YtgekfnodmgkdaaaDoor

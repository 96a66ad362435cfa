/- The specification's values. -/
import Derived.Test.YtgekfnodmgkdaaaDoorPkG
import Derived.Test.YtgekfnodmgkdaaaDoorTsS
import Derived.Deep.RegionHeld3
namespace Go.Proofs.YtgekfnodmgkdaaaDoor
open Go.RowKit

theorem Ty.At.kind {w : World} {t : Ty} {k : Int} {s : Value} {f : List Nat} (h : t.At w (.agg #[.int .i64 k, s]) f) : kindT t = k := by
  obtain ⟨j, ts, rfl⟩ := t.shape
  obtain ⟨s', hv, -⟩ := Ty.at_mk.1 h
  simp only [Value.agg.injEq, Array.mk.injEq, List.cons.injEq, Value.int.injEq, true_and, and_true] at hv
  exact hv.1.symm

theorem stays_eq (k : Int) (ty fr : Ty) : staysB k ty fr = ((k == 14 && (kindT fr == kindT ty && (kindT fr == 4 || kindT fr == 5))) || injB k ty fr) := by
  unfold staysB proxB
  generalize injB k ty fr = c
  generalize kindT ty = a
  generalize kindT fr = b
  rw [Bool.eq_iff_iff]
  simp only [Bool.or_eq_true, Bool.and_eq_true, beq_iff_eq]
  constructor
  · rintro ((⟨h, h1, h2⟩ | ⟨h, h1, h2⟩) | h)
    · exact .inl ⟨h, by omega, .inl h1⟩
    · exact .inl ⟨h, by omega, .inr h1⟩
    · exact .inr h
  · rintro (⟨h, h1, h2 | h2⟩ | h)
    · exact .inl (.inl ⟨h, h2, by omega⟩)
    · exact .inl (.inr ⟨h, h2, by omega⟩)
    · exact .inr h

set_option maxHeartbeats 1000000 in
theorem l5Ground_any (t : Ty) (v : Value) (f : List Nat) (w : World) (hat : t.At w v f) (hv : vld t = true) :
    Calls Tryd.prog 190 #[v] w fun e w' => e = .returned (.bool (isG t)) ∧ Below w.heap.size w w' := by
  obtain ⟨k, n, a, cap, rfl⟩ := hat.agg
  have hb0 : Below w.heap.size w (w.alloc (Obj.cells #[.int .i64 k, .slice a n cap] 32)) := (Below.refl _ _).alloc (Nat.le_refl _) _
  have hat1 := hat.below hb0
  have hk := hat.kind
  have HE := hid (isG_eq (wf_of_vld hv))
  have hn : t.cnt ≤ 1048576 := by have := vld_cnt hv; omega
  obtain ⟨x0, x1⟩ := box_cells (Below.refl (w.alloc (Obj.cells #[.int .i64 k, .slice a n cap] 32)).heap.size (w.alloc (Obj.cells #[.int .i64 k, .slice a n cap] 32)))
  by_cases h1 : k = 1
  · have HR := hid (show isG t = false by rw [HE.out, hk, h1]; rfl)
    subst h1
    clear hat
    go_enter Tryd.func190, Tryd.ntmps190
    go_wp2_with fail
    go_quiet (fail)
    go_wp2_with fail
    go_ret
    exact ⟨ret_b HR.out.symm, belowN hb0 _⟩
  · have hk1 : (k == 1) = false := by simpa using h1
    have hk2 : (k != 1) = true := by simpa using h1
    have HR := hid (show isG t = tyEq t (grd t) by rw [HE.out, hk, hk2, Bool.true_and])
    clear hat h1 hk
    go_enter Tryd.func190, Tryd.ntmps190
    go_wp2_with fail
    go_region_held3 (fun w' => Below (w.alloc (Obj.cells #[.int .i64 k, .slice a n cap] 32)).heap.size (w.alloc (Obj.cells #[.int .i64 k, .slice a n cap] 32)) w' ∧ w'.cell? ⟨w.heap.size, 0, none⟩ = some (.int .i64 k) ∧ w'.cell? ⟨w.heap.size, 1, none⟩ = some (.slice a n cap))
      ((refine (fun hB => ⟨hB, cell_keep x0 hB, cell_keep x1 hB⟩ : Below (w.alloc (Obj.cells #[.int .i64 k, .slice a n cap] 32)).heap.size (w.alloc (Obj.cells #[.int .i64 k, .slice a n cap] 32)) _ → _) ?_; (first | exact below_drew _ | exact hk1 | exact hk2)))
      (first
        | (go_at_call 175; refine (l1Ground_any t _ _ _ (hat1.below (below_drew _)) hn).mono ?_; rintro e w1 ⟨v1, f1, rfl, hat2, hf2, hy1⟩; have hk1 := below_trans (below_drew _) hy1)
        | (go_at_call 189; refine (specTypeSame t _ _ _ _ _ _ (hat1.below hk1) hat2).mono ?_; rintro e w2 ⟨rfl, hy2⟩; have hk2 := below_trans hk1 hy2))
    generalize tyEq t (grd t) = r at *
    go_wp2_with fail
    go_ret
    exact ⟨ret_b HR.out.symm, below_trans hb0 hk2⟩

set_option maxHeartbeats 1000000 in
theorem l5Proxy_any (k : Int) (nm : ByteArray) (num : Int) (ty fr : Ty) (lb : Int) (ts : List Tm) (v : Value) (fp : List Nat) (w : World) (hat : Tm.At w (.mk k nm num ty fr lb ts) v fp) :
    Calls Tryd.prog 148 #[v] w fun e w' => e = .returned (.bool (k == 14 && (kindT fr == kindT ty && (kindT fr == 4 || kindT fr == 5)))) ∧ Below w.heap.size w w' := by
  obtain ⟨k1, n1, a1, c1, k2, n2, a2, c2, a3, c3, f1, f2, f3, rfl, hnm, ht1, ht2, rfl, hs⟩ := hat.parts
  generalize hln : ts.length = n3 at *
  have hb0 : Below w.heap.size w (w.alloc (Obj.cells #[.int .i64 k, .string nm, .int .i64 num, .int .i64 k1, .slice a1 n1 c1, .int .i64 k2, .slice a2 n2 c2, .int .i64 lb, .slice a3 n3 c3] 35)) := (Below.refl _ _).alloc (Nat.le_refl _) _
  rw [ht1.kind, ht2.kind]
  have HB := hid hb0
  obtain ⟨z0, z1, z2, z3, z4, z5, z6, z7, z8⟩ := box9 (Below.refl (w.alloc (Obj.cells #[.int .i64 k, .string nm, .int .i64 num, .int .i64 k1, .slice a1 n1 c1, .int .i64 k2, .slice a2 n2 c2, .int .i64 lb, .slice a3 n3 c3] 35)).heap.size (w.alloc (Obj.cells #[.int .i64 k, .string nm, .int .i64 num, .int .i64 k1, .slice a1 n1 c1, .int .i64 k2, .slice a2 n2 c2, .int .i64 lb, .slice a3 n3 c3] 35)))
  clear hat ht1 ht2 hs hb0
  by_cases h14 : k = 14
  case neg =>
    have e14 : (k == 14) = false := by simpa using h14
    rw [e14]
    go_enter Tryd.func148, Tryd.ntmps148
    go_wp2_with fail
    go_ret
    exact ⟨rfl, HB.out⟩
  subst h14
  by_cases hk : k2 = k1
  case neg =>
    have ek : (k2 == k1) = false := by simpa using hk
    rw [ek]
    go_enter Tryd.func148, Tryd.ntmps148
    go_wp2_with fail
    go_ret
    exact ⟨rfl, HB.out⟩
  subst hk
  by_cases h4 : k2 = 4
  · subst h4
    go_enter Tryd.func148, Tryd.ntmps148
    go_wp2_with fail
    go_ret
    exact ⟨rfl, HB.out⟩
  have e4 : (k2 == 4) = false := by simpa using h4
  have HR := hid (show (((14 : Int) == 14) && (k2 == k2 && (k2 == 4 || k2 == 5))) = (k2 == 5) by rw [e4]; simp)
  rw [HR.out]
  generalize hr : (k2 == 5) = r at *
  go_enter Tryd.func148, Tryd.ntmps148
  go_wp2_with fail
  go_ret
  exact ⟨rfl, HB.out⟩

set_option maxHeartbeats 1000000 in
theorem l5Inject_any (k : Int) (nm : ByteArray) (num : Int) (ty fr : Ty) (lb : Int) (ts : List Tm) (v : Value) (fp : List Nat) (w : World) (hat : Tm.At w (.mk k nm num ty fr lb ts) v fp) (hv : k = 14 → vld fr = true) :
    Calls Tryd.prog 149 #[v] w fun e w' => e = .returned (.bool (injB k ty fr)) ∧ Below w.heap.size w w' := by
  obtain ⟨k1, n1, a1, c1, k2, n2, a2, c2, a3, c3, f1, f2, f3, rfl, hnm, ht1, ht2, rfl, hs⟩ := hat.parts
  generalize hln : ts.length = n3 at *
  have hb0 : Below w.heap.size w (w.alloc (Obj.cells #[.int .i64 k, .string nm, .int .i64 num, .int .i64 k1, .slice a1 n1 c1, .int .i64 k2, .slice a2 n2 c2, .int .i64 lb, .slice a3 n3 c3] 35)) := (Below.refl _ _).alloc (Nat.le_refl _) _
  have HE := hid (show injB k ty fr = (k == 14 && (isG fr && k1 == 1)) by rw [← ht1.kind]; rfl)
  have HB := hid hb0
  have HT2 := hid (ht2.below hb0)
  obtain ⟨z0, z1, z2, z3, z4, z5, z6, z7, z8⟩ := box9 (Below.refl (w.alloc (Obj.cells #[.int .i64 k, .string nm, .int .i64 num, .int .i64 k1, .slice a1 n1 c1, .int .i64 k2, .slice a2 n2 c2, .int .i64 lb, .slice a3 n3 c3] 35)).heap.size (w.alloc (Obj.cells #[.int .i64 k, .string nm, .int .i64 num, .int .i64 k1, .slice a1 n1 c1, .int .i64 k2, .slice a2 n2 c2, .int .i64 lb, .slice a3 n3 c3] 35)))
  clear hat ht1 ht2 hs hb0
  by_cases h14 : k = 14
  case neg =>
    have e14 : (k == 14) = false := by simpa using h14
    have HR := hid (show injB k ty fr = false by rw [HE.out, e14]; rfl)
    go_enter Tryd.func149, Tryd.ntmps149
    go_wp2_with fail
    go_ret
    exact ⟨ret_b HR.out.symm, HB.out⟩
  have HV := hid (hv h14)
  subst h14
  by_cases hk : k1 = 1
  case neg =>
    have ek : (k1 == 1) = false := by simpa using hk
    have HR := hid (show injB 14 ty fr = false by rw [HE.out, ek]; simp)
    go_enter Tryd.func149, Tryd.ntmps149
    go_wp2_with fail
    go_ret
    exact ⟨ret_b HR.out.symm, HB.out⟩
  subst hk
  have HR := hid (show injB 14 ty fr = isG fr by rw [HE.out]; simp)
  go_enter Tryd.func149, Tryd.ntmps149
  go_wp2_with fail
  refine (l5Ground_any fr _ _ _ HT2.out HV.out).mono ?_
  rintro e w1 ⟨rfl, hb1⟩
  generalize isG fr = r at *
  go_wp2_with fail
  go_ret
  exact ⟨ret_b HR.out.symm, below_trans HB.out hb1⟩

theorem getD_at {ts : List Tm} {i : Nat} (h : i < ts.length) : ts.getD i zT = ts[i] := by simp [List.getD, List.getElem?_eq_getElem h]

/-- An element of a slice of terms, its cells written out. -/
theorem sm_get {w : World} {ts : List Tm} {a : Option Addr} {n c : Nat} {f : List Nat} (h : SmAt w ts (.slice a n c) f) {i : Nat} (hi : i < ts.length) :
    ∃ b o k nm num k1 n1 a1 c1 k2 n2 a2 c2 lb n3 a3 c3 g, a = some ⟨b, o, none⟩ ∧ b < w.heap.size ∧
      w.cell? ⟨b, o + i * 9, none⟩ = some (.int .i64 k) ∧ w.cell? ⟨b, o + i * 9 + 1, none⟩ = some (.string nm) ∧ w.cell? ⟨b, o + i * 9 + 2, none⟩ = some (.int .i64 num) ∧
      w.cell? ⟨b, o + i * 9 + 3, none⟩ = some (.int .i64 k1) ∧ w.cell? ⟨b, o + i * 9 + 4, none⟩ = some (.slice a1 n1 c1) ∧ w.cell? ⟨b, o + i * 9 + 5, none⟩ = some (.int .i64 k2) ∧ w.cell? ⟨b, o + i * 9 + 6, none⟩ = some (.slice a2 n2 c2) ∧
      w.cell? ⟨b, o + i * 9 + 7, none⟩ = some (.int .i64 lb) ∧ w.cell? ⟨b, o + i * 9 + 8, none⟩ = some (.slice a3 n3 c3) ∧
      Tm.At w (ts.getD i zT) (.agg #[.int .i64 k, .string nm, .int .i64 num, .int .i64 k1, .slice a1 n1 c1, .int .i64 k2, .slice a2 n2 c2, .int .i64 lb, .slice a3 n3 c3]) g ∧ (∀ x ∈ g, x ∈ f) := by
  obtain ⟨a', cap, hs, hc, hm, hget⟩ := h.open
  simp only [Value.slice.injEq] at hs
  obtain ⟨rfl, rfl, rfl⟩ := hs
  have := hget i hi
  rw [getD_at hi]
  exact this

theorem sm_len {w : World} {ts : List Tm} {a : Option Addr} {n c : Nat} {f : List Nat} (h : SmAt w ts (.slice a n c) f) : n = ts.length ∧ n ≤ c := by
  obtain ⟨a', cap, hs, hc, hm, hget⟩ := h.open
  simp only [Value.slice.injEq] at hs
  obtain ⟨rfl, rfl, rfl⟩ := hs
  exact ⟨rfl, hc⟩

theorem isVL_two {ts : List Tm} (h : ts.length = 2) : isVL ts = (isV (ts.getD 0 zT) && isV (ts.getD 1 zT)) := by
  match ts, h with
  | [a, b], _ => simp [isVL]
theorem isVL_one {ts : List Tm} (h : ts.length = 1) : isVL ts = isV (ts.getD 0 zT) := by
  match ts, h with
  | [a], _ => simp [isVL]

def LvC (t : Tm) : Prop := ∀ (v : Value) (fp : List Nat) (w : World), okN t = true → t.At w v fp →
  Calls Tryd.prog 89 #[v] w fun e w' => e = .returned (.bool (isV t)) ∧ Below w.heap.size w w'

theorem getD_mem {ts : List Tm} {i : Nat} (h : i < ts.length) : ts.getD i zT ∈ ts := by
  rw [getD_at h]
  exact List.getElem_mem h

set_option maxRecDepth 100000 in
set_option maxHeartbeats 4000000 in
theorem l5Value_of (k : Int) (nm : ByteArray) (num : Int) (ty fr : Ty) (lb : Int) (ts : List Tm) (ih : ∀ t ∈ ts, LvC t) : LvC (.mk k nm num ty fr lb ts) := by
  intro v fp w hok hat
  have hat0 := hat
  obtain ⟨k1, n1, a1, c1, k2, n2, a2, c2, a3, c3, f1, f2, f3, rfl, hnm, ht1, ht2, rfl, hs⟩ := hat.parts
  generalize hln : ts.length = n3 at *
  obtain ⟨hk, h13, hown, hts⟩ := okN_kids hok
  have HCK := hid (fun i (h : i < ts.length) (v : Value) (f : List Nat) (w' : World) (hx : (ts.getD i zT).At w' v f) => ih _ (getD_mem h) v f w' (okNL_get hts h) hx)
  have hfr : k = 14 → vld fr = true := fun h => by rw [if_pos h] at hown; exact (own4_out hown).2.2.1
  have hb0 : Below w.heap.size w (w.alloc (Obj.cells #[.int .i64 k, .string nm, .int .i64 num, .int .i64 k1, .slice a1 n1 c1, .int .i64 k2, .slice a2 n2 c2, .int .i64 lb, .slice a3 n3 c3] 35)) := (Below.refl _ _).alloc (Nat.le_refl _) _
  have HB := hid hb0
  have HS := hid hs
  have HPX := hid (fun (w' : World) (h : Below w.heap.size w w') => l5Proxy_any k nm num ty fr lb ts _ _ w' (hat0.below h))
  have HIJ := hid (fun (w' : World) (h : Below w.heap.size w w') => l5Inject_any k nm num ty fr lb ts _ _ w' (hat0.below h) hfr)
  obtain ⟨z0, z1, z2, z3, z4, z5, z6, z7, z8⟩ := box9 (Below.refl (w.alloc (Obj.cells #[.int .i64 k, .string nm, .int .i64 num, .int .i64 k1, .slice a1 n1 c1, .int .i64 k2, .slice a2 n2 c2, .int .i64 lb, .slice a3 n3 c3] 35)).heap.size (w.alloc (Obj.cells #[.int .i64 k, .string nm, .int .i64 num, .int .i64 k1, .slice a1 n1 c1, .int .i64 k2, .slice a2 n2 c2, .int .i64 lb, .slice a3 n3 c3] 35)))
  clear hat hat0 ht1 ht2 hs hb0 hown hts hok hnm hfr ih
  have HV := hid (show isV (.mk k nm num ty fr lb ts) = if k = 2 ∨ k = 3 ∨ k = 4 ∨ k = 5 then true else if k = 10 then isVL ts else staysB k ty fr && isVL ts by rw [isV])
  by_cases h2 : k = 2
  · have HR := hid (show isV (.mk k nm num ty fr lb ts) = true by rw [HV.out, if_pos (.inl h2)])
    subst h2
    go_enter Tryd.func89, Tryd.ntmps89
    go_wp2_with fail
    go_ret
    exact ⟨ret_b HR.out.symm, HB.out⟩
  by_cases h3 : k = 3
  · have HR := hid (show isV (.mk k nm num ty fr lb ts) = true by rw [HV.out, if_pos (.inr (.inl h3))])
    subst h3
    go_enter Tryd.func89, Tryd.ntmps89
    go_wp2_with fail
    go_ret
    exact ⟨ret_b HR.out.symm, HB.out⟩
  by_cases h4 : k = 4
  · have HR := hid (show isV (.mk k nm num ty fr lb ts) = true by rw [HV.out, if_pos (.inr (.inr (.inl h4)))])
    subst h4
    go_enter Tryd.func89, Tryd.ntmps89
    go_wp2_with fail
    go_ret
    exact ⟨ret_b HR.out.symm, HB.out⟩
  by_cases h5 : k = 5
  · have HR := hid (show isV (.mk k nm num ty fr lb ts) = true by rw [HV.out, if_pos (.inr (.inr (.inr h5)))])
    subst h5
    go_enter Tryd.func89, Tryd.ntmps89
    go_wp2_with fail
    go_ret
    exact ⟨ret_b HR.out.symm, HB.out⟩
  have hn : ¬ (k = 2 ∨ k = 3 ∨ k = 4 ∨ k = 5) := by omega
  have e2 : (k == 2) = false := by simpa using h2
  have e3 : (k == 3) = false := by simpa using h3
  have e4 : (k == 4) = false := by simpa using h4
  have e5 : (k == 5) = false := by simpa using h5
  by_cases h10 : k = 10
  · have hl := kids_two (ts := ts) (by rw [hk, hln]) (by omega)
    have HR := hid (show isV (.mk k nm num ty fr lb ts) = (isV (ts.getD 0 zT) && isV (ts.getD 1 zT)) by rw [HV.out, if_neg hn, if_pos h10, isVL_two hl])
    obtain rfl : n3 = 2 := by omega
    obtain ⟨b, o, j0, jn0, jm0, j1, i1, p1, d1, j2, i2, p2, d2, jl0, i3, p3, d3, g0, rfl, hblt, u0, u1, u2, u3, u4, u5, u6, u7, u8, hat0, -⟩ := sm_get (i := 0) HS.out (by omega)
    obtain ⟨b', o', y0, yn0, ym0, y1, q1, r1, s1, y2, q2, r2, s2, yl0, q3, r3, s3, g1, hbb, -, t0, t1, t2, t3, t4, t5, t6, t7, t8, hat1, -⟩ := sm_get (i := 1) HS.out (by omega)
    simp only [Option.some.injEq, Addr.mk.injEq, and_true] at hbb
    obtain ⟨rfl, rfl⟩ := hbb
    have HC0 := hid (fun (w' : World) (h : Below w.heap.size w w') => HCK.out 0 (by omega) _ _ w' (hat0.below h))
    have HC1 := hid (fun (w' : World) (h : Below w.heap.size w w') => HCK.out 1 (by omega) _ _ w' (hat1.below h))
    generalize isV (ts.getD 0 zT) = r0 at *
    generalize isV (ts.getD 1 zT) = r1' at *
    simp only [Nat.zero_mul, Nat.one_mul, Nat.add_zero] at u0 u1 u2 u3 u4 u5 u6 u7 u8 t0 t1 t2 t3 t4 t5 t6 t7 t8
    subst h10
    clear hat0 hat1 HCK HPX HIJ hl hln hk
    replace u0 := cell_keep u0 HB.out
    replace u1 := cell_keep u1 HB.out
    replace u2 := cell_keep u2 HB.out
    replace u3 := cell_keep u3 HB.out
    replace u4 := cell_keep u4 HB.out
    replace u5 := cell_keep u5 HB.out
    replace u6 := cell_keep u6 HB.out
    replace u7 := cell_keep u7 HB.out
    replace u8 := cell_keep u8 HB.out
    replace t0 := cell_keep t0 HB.out
    replace t1 := cell_keep t1 HB.out
    replace t2 := cell_keep t2 HB.out
    replace t3 := cell_keep t3 HB.out
    replace t4 := cell_keep t4 HB.out
    replace t5 := cell_keep t5 HB.out
    replace t6 := cell_keep t6 HB.out
    replace t7 := cell_keep t7 HB.out
    replace t8 := cell_keep t8 HB.out
    go_enter Tryd.func89, Tryd.ntmps89
    go_wp2_with fail
    refine (HC0.out _ HB.out).mono ?_
    rintro e w1 ⟨rfl, hb1⟩
    cases r0
    · go_wp2_with fail
      go_ret
      exact ⟨ret_b (by rw [HR.out]; rfl), below_trans HB.out hb1⟩
    ·
      replace z0 := cell_keep z0 hb1
      replace z1 := cell_keep z1 hb1
      replace z2 := cell_keep z2 hb1
      replace z3 := cell_keep z3 hb1
      replace z4 := cell_keep z4 hb1
      replace z5 := cell_keep z5 hb1
      replace z6 := cell_keep z6 hb1
      replace z7 := cell_keep z7 hb1
      replace z8 := cell_keep z8 hb1
      replace t0 := cell_keep t0 hb1
      replace t1 := cell_keep t1 hb1
      replace t2 := cell_keep t2 hb1
      replace t3 := cell_keep t3 hb1
      replace t4 := cell_keep t4 hb1
      replace t5 := cell_keep t5 hb1
      replace t6 := cell_keep t6 hb1
      replace t7 := cell_keep t7 hb1
      replace t8 := cell_keep t8 hb1
      go_wp2_with fail
      refine (HC1.out _ (below_trans HB.out hb1)).mono ?_
      rintro e w2 ⟨rfl, hb2⟩
      go_wp2_with fail
      go_ret
      exact ⟨ret_b (by rw [HR.out]; rfl), below_trans HB.out (below_trans hb1 hb2)⟩
  have e10 : (k == 10) = false := by simpa using h10
  have HR := hid (show isV (.mk k nm num ty fr lb ts) = (staysB k ty fr && isVL ts) by rw [HV.out, if_neg hn, if_neg h10])
  rw [stays_eq] at HR
  generalize hpx : (k == 14 && (kindT fr == kindT ty && (kindT fr == 4 || kindT fr == 5))) = px at *
  have H14P := hid (show px = true → k = 14 by rintro rfl; simp only [Bool.and_eq_true, beq_iff_eq] at hpx; exact hpx.1)
  have H14I := hid (show injB k ty fr = true → k = 14 by intro h; simp only [injB, Bool.and_eq_true, beq_iff_eq] at h; exact h.1)
  generalize injB k ty fr = ij at *
  clear hpx HV hn
  cases px
  · cases ij
    · go_enter Tryd.func89, Tryd.ntmps89
      go_wp2_with fail
      refine (HPX.out _ HB.out).mono ?_
      rintro e w1 ⟨rfl, hb1⟩
      replace z0 := cell_keep z0 hb1
      replace z1 := cell_keep z1 hb1
      replace z2 := cell_keep z2 hb1
      replace z3 := cell_keep z3 hb1
      replace z4 := cell_keep z4 hb1
      replace z5 := cell_keep z5 hb1
      replace z6 := cell_keep z6 hb1
      replace z7 := cell_keep z7 hb1
      replace z8 := cell_keep z8 hb1
      go_wp2_with fail
      refine (HIJ.out _ (below_trans HB.out hb1)).mono ?_
      rintro e w2 ⟨rfl, hb2⟩
      go_wp2_with fail
      go_ret
      exact ⟨ret_b (by rw [HR.out]; rfl), below_trans HB.out (below_trans hb1 hb2)⟩
    · have h14 := H14I.out rfl
      have hl := kids_one (ts := ts) (by rw [hk, hln]) (by omega)
      rw [isVL_one hl] at HR
      obtain rfl : n3 = 1 := by omega
      obtain ⟨b, o, j0, jn0, jm0, j1, i1, p1, d1, j2, i2, p2, d2, jl0, i3, p3, d3, g0, rfl, hblt, u0, u1, u2, u3, u4, u5, u6, u7, u8, hat0, -⟩ := sm_get (i := 0) HS.out (by omega)
      have HC0 := hid (fun (w' : World) (h : Below w.heap.size w w') => HCK.out 0 (by omega) _ _ w' (hat0.below h))
      generalize isV (ts.getD 0 zT) = r0 at *
      simp only [Nat.zero_mul, Nat.add_zero] at u0 u1 u2 u3 u4 u5 u6 u7 u8
      clear hat0 HCK hl hln hk h14
      replace u0 := cell_keep u0 HB.out
      replace u1 := cell_keep u1 HB.out
      replace u2 := cell_keep u2 HB.out
      replace u3 := cell_keep u3 HB.out
      replace u4 := cell_keep u4 HB.out
      replace u5 := cell_keep u5 HB.out
      replace u6 := cell_keep u6 HB.out
      replace u7 := cell_keep u7 HB.out
      replace u8 := cell_keep u8 HB.out
      go_enter Tryd.func89, Tryd.ntmps89
      go_wp2_with fail
      refine (HPX.out _ HB.out).mono ?_
      rintro e w1 ⟨rfl, hb1⟩
      replace z0 := cell_keep z0 hb1
      replace z1 := cell_keep z1 hb1
      replace z2 := cell_keep z2 hb1
      replace z3 := cell_keep z3 hb1
      replace z4 := cell_keep z4 hb1
      replace z5 := cell_keep z5 hb1
      replace z6 := cell_keep z6 hb1
      replace z7 := cell_keep z7 hb1
      replace z8 := cell_keep z8 hb1
      replace u0 := cell_keep u0 hb1
      replace u1 := cell_keep u1 hb1
      replace u2 := cell_keep u2 hb1
      replace u3 := cell_keep u3 hb1
      replace u4 := cell_keep u4 hb1
      replace u5 := cell_keep u5 hb1
      replace u6 := cell_keep u6 hb1
      replace u7 := cell_keep u7 hb1
      replace u8 := cell_keep u8 hb1
      go_wp2_with fail
      refine (HIJ.out _ (below_trans HB.out hb1)).mono ?_
      rintro e w2 ⟨rfl, hb2⟩
      replace z0 := cell_keep z0 hb2
      replace z1 := cell_keep z1 hb2
      replace z2 := cell_keep z2 hb2
      replace z3 := cell_keep z3 hb2
      replace z4 := cell_keep z4 hb2
      replace z5 := cell_keep z5 hb2
      replace z6 := cell_keep z6 hb2
      replace z7 := cell_keep z7 hb2
      replace z8 := cell_keep z8 hb2
      replace u0 := cell_keep u0 hb2
      replace u1 := cell_keep u1 hb2
      replace u2 := cell_keep u2 hb2
      replace u3 := cell_keep u3 hb2
      replace u4 := cell_keep u4 hb2
      replace u5 := cell_keep u5 hb2
      replace u6 := cell_keep u6 hb2
      replace u7 := cell_keep u7 hb2
      replace u8 := cell_keep u8 hb2
      go_wp2_with fail
      refine (HC0.out _ (below_trans HB.out (below_trans hb1 hb2))).mono ?_
      rintro e w3 ⟨rfl, hb3⟩
      go_wp2_with fail
      go_ret
      exact ⟨ret_b (by rw [HR.out]; rfl), below_trans HB.out (below_trans hb1 (below_trans hb2 hb3))⟩
  · have h14 := H14P.out rfl
    have hl := kids_one (ts := ts) (by rw [hk, hln]) (by omega)
    rw [isVL_one hl] at HR
    obtain rfl : n3 = 1 := by omega
    obtain ⟨b, o, j0, jn0, jm0, j1, i1, p1, d1, j2, i2, p2, d2, jl0, i3, p3, d3, g0, rfl, hblt, u0, u1, u2, u3, u4, u5, u6, u7, u8, hat0, -⟩ := sm_get (i := 0) HS.out (by omega)
    have HC0 := hid (fun (w' : World) (h : Below w.heap.size w w') => HCK.out 0 (by omega) _ _ w' (hat0.below h))
    generalize isV (ts.getD 0 zT) = r0 at *
    simp only [Nat.zero_mul, Nat.add_zero] at u0 u1 u2 u3 u4 u5 u6 u7 u8
    clear hat0 HCK hl hln hk h14
    replace u0 := cell_keep u0 HB.out
    replace u1 := cell_keep u1 HB.out
    replace u2 := cell_keep u2 HB.out
    replace u3 := cell_keep u3 HB.out
    replace u4 := cell_keep u4 HB.out
    replace u5 := cell_keep u5 HB.out
    replace u6 := cell_keep u6 HB.out
    replace u7 := cell_keep u7 HB.out
    replace u8 := cell_keep u8 HB.out
    go_enter Tryd.func89, Tryd.ntmps89
    go_wp2_with fail
    refine (HPX.out _ HB.out).mono ?_
    rintro e w1 ⟨rfl, hb1⟩
    replace z0 := cell_keep z0 hb1
    replace z1 := cell_keep z1 hb1
    replace z2 := cell_keep z2 hb1
    replace z3 := cell_keep z3 hb1
    replace z4 := cell_keep z4 hb1
    replace z5 := cell_keep z5 hb1
    replace z6 := cell_keep z6 hb1
    replace z7 := cell_keep z7 hb1
    replace z8 := cell_keep z8 hb1
    replace u0 := cell_keep u0 hb1
    replace u1 := cell_keep u1 hb1
    replace u2 := cell_keep u2 hb1
    replace u3 := cell_keep u3 hb1
    replace u4 := cell_keep u4 hb1
    replace u5 := cell_keep u5 hb1
    replace u6 := cell_keep u6 hb1
    replace u7 := cell_keep u7 hb1
    replace u8 := cell_keep u8 hb1
    go_wp2_with fail
    refine (HC0.out _ (below_trans HB.out hb1)).mono ?_
    rintro e w3 ⟨rfl, hb3⟩
    go_wp2_with fail
    go_ret
    exact ⟨ret_b (by rw [HR.out]; simp), below_trans HB.out (below_trans hb1 hb3)⟩

theorem l5Value_any : ∀ t : Tm, LvC t := Tm.ind l5Value_of

end Go.Proofs.YtgekfnodmgkdaaaDoor

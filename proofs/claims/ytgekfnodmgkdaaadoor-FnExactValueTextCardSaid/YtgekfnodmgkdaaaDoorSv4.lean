/- The program's values. -/
import Derived.Test.YtgekfnodmgkdaaaDoorSv3
namespace Go.Proofs.YtgekfnodmgkdaaaDoor
open Go.RowKit

theorem callOk_g1 : CallOkT 192 := fun _ _ => by kernel_rfl

theorem isG1_any (t : Ty) (v : Value) (f : List Nat) (w : World) (hat : t.At w v f) :
    Calls Tryd.prog 192 #[v] w fun e w' => e = .returned (.bool (kindT t != 1)) ∧ Below w.heap.size w w' := by
  obtain ⟨k, n, a, cap, rfl⟩ := hat.agg
  have hb0 : Below w.heap.size w (w.alloc (Obj.cells #[.int .i64 k, .slice a n cap] 32)) := (Below.refl _ _).alloc (Nat.le_refl _) _
  rw [hat.kind]
  go_enter Tryd.func192, Tryd.ntmps192
  go_wp2_with fail
  go_ret
  exact ⟨rfl, hb0⟩

set_option maxHeartbeats 1000000 in
theorem indexG_any (ts : List Ty) (s : Value) (f : List Nat) (w : World) (hs : SlAt w ts s f) :
    Calls Tryd.prog 217 #[s, (.func (.func 192) #[] #[])] w fun e w' => ∃ r : Int, e = .returned (.int .i64 r) ∧ decide (0 ≤ r) = !(ts.all (fun t => kindT t == 1)) ∧ Below w.heap.size w w' := by
  obtain ⟨a, cap, rfl, hc, hm, hget⟩ := hs.openA
  have HG := hid hget
  have hfc := callOk_g1
  unfold CallOkT at hfc
  clear hget hs
  go_enter Tryd.func217, Tryd.ntmps217
  go_wp2_with fail
  go_loopw [8] (fun i wr => ∃ j : Nat, j ≤ ts.length ∧ i = .int .i64 j ∧ ts.all (fun t => kindT t == 1) = (ts.drop j).all (fun t => kindT t == 1) ∧ Below w.heap.size w wr) (fun i _ => ts.length - (intOf i).toNat)
  case atStart => exact ⟨0, Nat.zero_le _, rfl, rfl, Below.refl _ _⟩
  case round =>
    obtain ⟨j, hj, rfl, hdr, hb⟩ := hrel
    have HD := hid hdr
    clear hdr
    by_cases hlk : j < ts.length
    · obtain ⟨b, o, k1, n1, a1, cap1, f1, rfl, hblt, c0, c1, hat, hf⟩ := HG.out j hlk
      have d0 := (hb.cell (p := ⟨b, o + j * 2, none⟩) hblt).trans c0
      have d1 := (hb.cell (p := ⟨b, o + j * 2 + 1, none⟩) hblt).trans c1
      clear c0 c1
      have HST := hid (show (ts.drop j).all (fun t => kindT t == 1) = ((kindT ts[j] == 1) && (ts.drop (j + 1)).all (fun t => kindT t == 1)) by rw [List.drop_eq_getElem_cons hlk, List.all_cons])
      go_wp2_with fail
      refine (isG1_any _ _ _ _ (hat.below hb)).mono ?_
      rintro e w1 ⟨rfl, hb1⟩
      have hbb := below_trans hb hb1
      clear hb hb1 hat d0 d1
      generalize hr : (kindT ts[j] == 1) = r at *
      have hr2 : (kindT ts[j] != 1) = !r := by rw [← hr]; rfl
      rw [hr2]
      clear hr hr2
      cases r
      · go_wp2_with fail
        go_ret
        exact ⟨_, rfl, by rw [HD.out, HST.out]; simp, hbb⟩
      · go_wp2_with fail
        go_roundw
        case rel => exact ⟨j + 1, by omega, by go_num, by rw [HD.out, HST.out, Bool.true_and], hbb⟩
        case measure => simp [intOf]; omega
    · go_wp2_with fail
      go_ret
      exact ⟨_, rfl, by rw [HD.out, List.drop_of_length_le (by omega)]; rfl, hb⟩

set_option maxHeartbeats 1000000 in
theorem containsG_any (ts : List Ty) (s : Value) (f : List Nat) (w : World) (hs : SlAt w ts s f) :
    Calls Tryd.prog 191 #[s, (.func (.func 192) #[] #[])] w fun e w' => e = .returned (.bool (!(ts.all (fun t => kindT t == 1)))) ∧ Below w.heap.size w w' := by
  have HS := hid hs
  obtain ⟨a, cap, rfl⟩ := hs.shape
  clear hs
  go_enter Tryd.func191, Tryd.ntmps191
  go_wp2_with fail
  refine (indexG_any ts _ f _ HS.out).mono ?_
  rintro e w1 ⟨r, rfl, hr, hb1⟩
  have HR := hid hr
  clear hr
  go_wp2_with fail
  go_ret
  exact ⟨ret_b HR.out, hb1⟩

set_option maxHeartbeats 1000000 in
theorem isGround_any (t : Ty) (v : Value) (f : List Nat) (w : World) (hat : t.At w v f) :
    Calls Tryd.prog 150 #[v] w fun e w' => e = .returned (.bool (isG t)) ∧ Below w.heap.size w w' := by
  obtain ⟨k, ts, rfl⟩ := t.shape
  obtain ⟨s, rfl, hs⟩ := Ty.at_mk.1 hat
  obtain ⟨a, cap, rfl⟩ := hs.shape
  generalize hln : ts.length = n at *
  have hb0 : Below w.heap.size w (w.alloc (Obj.cells #[.int .i64 k, .slice a n cap] 32)) := (Below.refl _ _).alloc (Nat.le_refl _) _
  have HS := hid (hs.below hb0)
  have HE := hid (show isG (.mk k ts) = ((k != 1) && ts.all (fun t => kindT t == 1)) from rfl)
  obtain ⟨x0, x1⟩ := box_cells (Below.refl (w.alloc (Obj.cells #[.int .i64 k, .slice a n cap] 32)).heap.size (w.alloc (Obj.cells #[.int .i64 k, .slice a n cap] 32)))
  clear hat hs
  by_cases h1 : k = 1
  · subst h1
    go_enter Tryd.func150, Tryd.ntmps150
    go_wp2_with fail
    go_ret
    exact ⟨ret_b (by rw [HE.out]; rfl), hb0⟩
  · have hk1 : (k == 1) = false := by simpa using h1
    have hk2 : (k != 1) = true := by simpa using h1
    rw [hk2, Bool.true_and] at HE
    go_enter Tryd.func150, Tryd.ntmps150
    go_wp2_with fail
    refine (containsG_any ts _ _ _ HS.out).mono ?_
    rintro e w1 ⟨rfl, hb1⟩
    generalize ts.all (fun t => kindT t == 1) = r at *
    go_wp2_with fail
    go_ret
    exact ⟨ret_b (by rw [HE.out]), below_trans hb0 hb1⟩

set_option maxHeartbeats 1000000 in
theorem isProxy_any (kk : Int) (k : Int) (nm : ByteArray) (num : Int) (ty fr : Ty) (lb : Int) (ts : List Tm) (v : Value) (fp : List Nat) (w : World) (hat : Tm.At w (.mk k nm num ty fr lb ts) v fp) :
    Calls Tryd.prog 93 #[v, .int .i64 kk] w fun e w' => e = .returned (.bool (proxB k ty fr kk)) ∧ Below w.heap.size w w' := by
  obtain ⟨k1, n1, a1, c1, k2, n2, a2, c2, a3, c3, f1, f2, f3, rfl, hnm, ht1, ht2, rfl, hs⟩ := hat.parts
  generalize hln : ts.length = n3 at *
  have hb0 : Below w.heap.size w (w.alloc (Obj.cells #[.int .i64 k, .string nm, .int .i64 num, .int .i64 k1, .slice a1 n1 c1, .int .i64 k2, .slice a2 n2 c2, .int .i64 lb, .slice a3 n3 c3] 35)) := (Below.refl _ _).alloc (Nat.le_refl _) _
  have HE := hid (show proxB k ty fr kk = (k == 14 && (k2 == kk && k1 == kk)) by rw [← ht1.kind, ← ht2.kind]; rfl)
  have HB := hid hb0
  obtain ⟨z0, z1, z2, z3, z4, z5, z6, z7, z8⟩ := box9 (Below.refl (w.alloc (Obj.cells #[.int .i64 k, .string nm, .int .i64 num, .int .i64 k1, .slice a1 n1 c1, .int .i64 k2, .slice a2 n2 c2, .int .i64 lb, .slice a3 n3 c3] 35)).heap.size (w.alloc (Obj.cells #[.int .i64 k, .string nm, .int .i64 num, .int .i64 k1, .slice a1 n1 c1, .int .i64 k2, .slice a2 n2 c2, .int .i64 lb, .slice a3 n3 c3] 35)))
  clear hat ht1 ht2 hs hb0
  by_cases h14 : k = 14
  case neg =>
    have e14 : (k == 14) = false := by simpa using h14
    rw [e14] at HE
    go_enter Tryd.func93, Tryd.ntmps93
    go_wp2_with fail
    go_ret
    exact ⟨ret_b HE.out.symm, HB.out⟩
  subst h14
  by_cases hk : k2 = kk
  case neg =>
    have ek : (k2 == kk) = false := by simpa using hk
    rw [ek] at HE
    go_enter Tryd.func93, Tryd.ntmps93
    go_wp2_with fail
    go_ret
    exact ⟨ret_b HE.out.symm, HB.out⟩
  subst hk
  have HR := hid (show proxB 14 ty fr k2 = (k1 == k2) by rw [HE.out]; simp)
  go_enter Tryd.func93, Tryd.ntmps93
  go_wp2_with fail
  go_ret
  exact ⟨ret_b HR.out.symm, HB.out⟩

set_option maxHeartbeats 1000000 in
theorem isInjection_any (k : Int) (nm : ByteArray) (num : Int) (ty fr : Ty) (lb : Int) (ts : List Tm) (v : Value) (fp : List Nat) (w : World) (hat : Tm.At w (.mk k nm num ty fr lb ts) v fp) :
    Calls Tryd.prog 92 #[v] w fun e w' => e = .returned (.bool (injB k ty fr)) ∧ Below w.heap.size w w' := by
  obtain ⟨k1, n1, a1, c1, k2, n2, a2, c2, a3, c3, f1, f2, f3, rfl, hnm, ht1, ht2, rfl, hs⟩ := hat.parts
  generalize hln : ts.length = n3 at *
  have hb0 : Below w.heap.size w (w.alloc (Obj.cells #[.int .i64 k, .string nm, .int .i64 num, .int .i64 k1, .slice a1 n1 c1, .int .i64 k2, .slice a2 n2 c2, .int .i64 lb, .slice a3 n3 c3] 35)) := (Below.refl _ _).alloc (Nat.le_refl _) _
  have HE := hid (show injB k ty fr = (k == 14 && (isG fr && k1 == 1)) by rw [← ht1.kind]; rfl)
  have HB := hid hb0
  have HT2 := hid (ht2.below hb0)
  obtain ⟨z0, z1, z2, z3, z4, z5, z6, z7, z8⟩ := box9 (Below.refl (w.alloc (Obj.cells #[.int .i64 k, .string nm, .int .i64 num, .int .i64 k1, .slice a1 n1 c1, .int .i64 k2, .slice a2 n2 c2, .int .i64 lb, .slice a3 n3 c3] 35)).heap.size (w.alloc (Obj.cells #[.int .i64 k, .string nm, .int .i64 num, .int .i64 k1, .slice a1 n1 c1, .int .i64 k2, .slice a2 n2 c2, .int .i64 lb, .slice a3 n3 c3] 35)))
  clear hat ht1 ht2 hs hb0
  by_cases h14 : k = 14
  case neg =>
    have e14 : (k == 14) = false := by simpa using h14
    rw [e14] at HE
    go_enter Tryd.func92, Tryd.ntmps92
    go_wp2_with fail
    go_ret
    exact ⟨ret_b HE.out.symm, HB.out⟩
  subst h14
  go_enter Tryd.func92, Tryd.ntmps92
  go_wp2_with fail
  refine (isGround_any fr _ _ _ HT2.out).mono ?_
  rintro e w1 ⟨rfl, hb1⟩
  replace z3 := cell_keep z3 hb1
  generalize isG fr = r at *
  cases r
  · go_wp2_with fail
    go_ret
    exact ⟨ret_b (by rw [HE.out]; rfl), below_trans HB.out hb1⟩
  · have HR := hid (show injB 14 ty fr = (k1 == 1) by rw [HE.out]; simp)
    go_wp2_with fail
    go_ret
    exact ⟨ret_b HR.out.symm, below_trans HB.out hb1⟩
end Go.Proofs.YtgekfnodmgkdaaaDoor

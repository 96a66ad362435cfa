/- CoercionIdentity, of the specification and of the program. -/
import Derived.Test.YtephhhnoobkbhaaCw6
import Derived.Test.YtephhhnoobkbhaaCEc
namespace Go.Proofs.Ytephhhnoobkbhaa
open Go.RowKit

/-- The document's CoercionIdentity. -/
def idV (t : Co) : Bool := vldC t && idC t

theorem vld_kids {k g l : Int} {ts : List Co} (h : vldC (.mk k g l ts) = true) : ∀ t ∈ ts, vldC t = true := fun t ht => shpC_up (by omega) ((shpC_node (d := 8) h).2 t ht)

theorem all_congr {p q : Co → Bool} : ∀ {ts : List Co}, (∀ t ∈ ts, p t = q t) → ts.all p = ts.all q
  | [], _ => rfl
  | t :: ts, h => by
    have e := all_congr (p := p) (q := q) (ts := ts) (fun t ht => h t (List.mem_cons_of_mem _ ht))
    simp only [List.all_cons, h t (by simp), e]

theorem idV_node {k g l : Int} {ts : List Co} (h : vldC (.mk k g l ts) = true) : idV (.mk k g l ts) = (!(k == 4 || k == 5 || k == 6) && ts.all idV) := by
  have h1 : ts.all idV = idL ts := by
    rw [idL_all]
    exact all_congr fun t ht => by simp only [idV, vld_kids h t ht, Bool.true_and]
  rw [h1]
  simp only [idV, h, Bool.true_and, idC]
  congr 1
  rcases nodeC_cases (shpC_node (d := 8) h).1 with ⟨rfl, _⟩ | ⟨rfl, _⟩ | ⟨rfl, _⟩ | ⟨rfl, _⟩ | ⟨rfl, _⟩ | ⟨rfl, _⟩ <;> decide

theorem idV_all {ts : List Co} {j : Nat} (h : j < ts.length) : (ts.drop j).all idV = (idV ts[j] && (ts.drop (j + 1)).all idV) := by
  rw [List.drop_eq_getElem_cons h, List.all_cons]

def Id6C (t : Co) : Prop := ∀ (v : Value) (fp : List Nat) (w : World), t.At w v fp →
  Calls Try.prog 50 #[v] w fun e w' => e = .returned (.bool (idV t)) ∧ Below w.heap.size w w'

set_option maxHeartbeats 2000000 in
theorem specId_of (k g l : Int) (ts : List Co) (ih : ∀ t ∈ ts, Id6C t) : Id6C (.mk k g l ts) := by
  intro v fp w hat
  have HIH := hid ih
  have HAT := hid hat
  clear ih
  obtain ⟨s, rfl, hs⟩ := Co.at_mk.1 hat
  obtain ⟨a, cap, rfl, hc, hm, hget⟩ := hs.open
  have HG := hid hget
  have hb0 : Below w.heap.size w (w.alloc (Obj.cells #[.int .i64 k, .int .i64 g, .int .i64 l, .slice a ts.length cap] 52)) := (Below.refl _ _).alloc (Nat.le_refl _) _
  clear hget hat hs
  cases hv : vldC (.mk k g l ts) with
  | false =>
    have HT := hid (show idV (.mk k g l ts) = false by simp [idV, hv])
    have HV := hid hv
    clear hv
    go_enter Try.func50, Try.ntmps50
    go_wp2_with fail
    refine (specCoercionValid_any (.mk k g l ts) _ _ _ (HAT.out.below hb0)).mono ?_
    rintro e w1 ⟨he, hb⟩
    rw [HV.out] at he
    subst he
    go_wp2_with fail
    go_ret
    exact ⟨ret_b HT.out.symm, alloc1 hb⟩
  | true =>
  have HT := hid (idV_node hv)
  have HV := hid hv
  clear hv
  by_cases h4 : k = 4
  case pos =>
    subst h4
    go_enter Try.func50, Try.ntmps50
    go_wp2_with fail
    refine (specCoercionValid_any (.mk 4 g l ts) _ _ _ (HAT.out.below hb0)).mono ?_
    rintro e w1 ⟨he, hb1⟩
    rw [HV.out] at he
    subst he
    obtain ⟨x0, x1, x2, x3⟩ := box4 hb1
    go_wp2_with fail
    go_ret
    exact ⟨ret_b (by rw [HT.out]; rfl), alloc1 hb1⟩
  have e4 : (k == 4) = false := by simpa using h4
  by_cases h5 : k = 5
  case pos =>
    subst h5
    go_enter Try.func50, Try.ntmps50
    go_wp2_with fail
    refine (specCoercionValid_any (.mk 5 g l ts) _ _ _ (HAT.out.below hb0)).mono ?_
    rintro e w1 ⟨he, hb1⟩
    rw [HV.out] at he
    subst he
    obtain ⟨x0, x1, x2, x3⟩ := box4 hb1
    go_wp2_with fail
    go_ret
    exact ⟨ret_b (by rw [HT.out]; rfl), alloc1 hb1⟩
  have e5 : (k == 5) = false := by simpa using h5
  by_cases h6 : k = 6
  case pos =>
    subst h6
    go_enter Try.func50, Try.ntmps50
    go_wp2_with fail
    refine (specCoercionValid_any (.mk 6 g l ts) _ _ _ (HAT.out.below hb0)).mono ?_
    rintro e w1 ⟨he, hb1⟩
    rw [HV.out] at he
    subst he
    obtain ⟨x0, x1, x2, x3⟩ := box4 hb1
    go_wp2_with fail
    go_ret
    exact ⟨ret_b (by rw [HT.out]; rfl), alloc1 hb1⟩
  have e6 : (k == 6) = false := by simpa using h6
  rw [e4, e5, e6] at HT
  simp only [Bool.or_false, Bool.not_false, Bool.true_and] at HT
  go_enter Try.func50, Try.ntmps50
  go_wp2_with fail
  refine (specCoercionValid_any (.mk k g l ts) _ _ _ (HAT.out.below hb0)).mono ?_
  rintro e w1 ⟨he, hb1⟩
  rw [HV.out] at he
  subst he
  have HB1 := hid hb1
  obtain ⟨x0, x1, x2, x3⟩ := box4 hb1
  clear hb1
  go_wp2_with fail
  go_loopw [3] (fun i wr => ∃ j : Nat, j ≤ ts.length ∧ i = .int .i64 j ∧ (ts.drop j).all idV = ts.all idV ∧ Below (w.alloc (Obj.cells #[.int .i64 k, .int .i64 g, .int .i64 l, .slice a ts.length cap] 52)).heap.size (w.alloc (Obj.cells #[.int .i64 k, .int .i64 g, .int .i64 l, .slice a ts.length cap] 52)) wr) (fun i _ => ts.length - (intOf i).toNat)
  case atStart => exact ⟨0, Nat.zero_le _, rfl, rfl, HB1.out⟩
  case round =>
    obtain ⟨j, hj, rfl, hdr, hb⟩ := hrel
    have HD := hid hdr
    clear hdr x0 x1 x2 x3
    obtain ⟨x0, x1, x2, x3⟩ := box4 hb
    by_cases hlk : j < ts.length
    · obtain ⟨b, o, k1, g1, l1, n1, a1, cap1, f1, rfl, hblt, c0, c1, c2, c3, hat, hf⟩ := HG.out j hlk
      have hbw := alloc1 hb
      have d0 := (hbw.cell (p := ⟨b, o + j * 4, none⟩) hblt).trans c0
      have d1 := (hbw.cell (p := ⟨b, o + j * 4 + 1, none⟩) hblt).trans c1
      have d2 := (hbw.cell (p := ⟨b, o + j * 4 + 2, none⟩) hblt).trans c2
      have d3 := (hbw.cell (p := ⟨b, o + j * 4 + 3, none⟩) hblt).trans c3
      clear c0 c1 c2 c3
      have HST := hid (idV_all hlk)
      go_wp2_with fail
      refine (HIH.out _ (List.getElem_mem hlk) _ _ _ (hat.below hbw)).mono ?_
      rintro e w1 ⟨rfl, hb1⟩
      have hbb := hb.trans (hb1.mono hb.size)
      clear hb hb1 hat d0 d1 d2 d3 hbw
      generalize idV ts[j] = r at *
      cases r
      · go_wp2_with fail
        go_ret
        exact ⟨ret_b (by rw [HT.out, ← HD.out, HST.out, Bool.false_and]), alloc1 hbb⟩
      · go_wp2_with fail
        go_roundw
        case rel => exact ⟨j + 1, by omega, by go_num, by rw [← HD.out, HST.out, Bool.true_and], hbb⟩
        case measure => simp [intOf]; omega
    · go_wp2_with fail
      go_ret
      exact ⟨ret_b (by rw [HT.out, ← HD.out, List.drop_of_length_le (by omega), List.all_nil]), alloc1 hb⟩

theorem specId_any : ∀ t : Co, Id6C t := Co.ind specId_of

theorem specCoercionIdentity (t : Co) (v : Value) (fp : List Nat) (w : World) (hat : t.At w v fp) :
    Calls Try.prog 50 #[v] w fun e w' => e = .returned (.bool (idV t)) ∧ Below w.heap.size w w' := specId_any t v fp w hat

/-- The program's visit. -/
def idStep (r : Bool) : Co → Bool
  | .mk k _ _ _ => r && (k == 1 || (k == 2 || k == 3))

mutual
theorem idN_eq : ∀ (t : Co) (r : Bool), ccN idStep r t = (r && idC t)
  | .mk k g l ts, r => by simp only [ccN, idStep, idC, idL_eq ts, Bool.and_assoc]
theorem idL_eq : ∀ (ts : List Co) (r : Bool), ccL idStep r ts = (r && idL ts)
  | [], r => by simp [ccL, idL]
  | t :: ts, r => by simp only [ccL, idL, idN_eq t, idL_eq ts, Bool.and_assoc]
end

def StB (M : Nat) (r : Bool) (v : Value) (w : World) : Prop := v = .bool r ∧ w.heap[M]? = some (.cells #[.bool r] 4 (0, 0))

theorem callOk_id : CallOkT 102 := fun _ _ => by kernel_rfl

theorem lr_cell {M : Nat} {w w0 : World} {r x : Bool} (hb : Below w.heap.size w w0) (hM : w.heap[M]? = some (.cells #[.bool r] 4 (0, 0))) :
    StB M x (.bool x) (w0.setCell ⟨M, 0, none⟩ (.bool x)) ∧ Lr M w (w0.setCell ⟨M, 0, none⟩ (.bool x)) (.bool r) (.bool x) :=
  ⟨⟨rfl, heap_setCell_at (blk hM hb) _⟩, ⟨⟨hb.os, hb.tape, hb.output, by rw [size_setCell]; exact hb.size⟩, fun k hk hkM _ => (Below.heap_setCell _ _ _ _ hkM).trans (hb.block k hk), .inl rfl⟩⟩

theorem lr_cell2 {M : Nat} {w : World} {o : Obj} {r x : Bool} (hM : w.heap[M]? = some (.cells #[.bool r] 4 (0, 0))) :
    StB M x (.bool x) ((w.setCell ⟨M, 0, none⟩ (.bool x)).alloc o) ∧ Lr M w ((w.setCell ⟨M, 0, none⟩ (.bool x)).alloc o) (.bool r) (.bool x) := by
  have h1 := lr_cell (x := x) (Below.refl _ w) hM
  have hb : Below (w.setCell ⟨M, 0, none⟩ (.bool x)).heap.size (w.setCell ⟨M, 0, none⟩ (.bool x)) ((w.setCell ⟨M, 0, none⟩ (.bool x)).alloc o) := (Below.refl _ _).alloc (Nat.le_refl _) _
  exact ⟨⟨rfl, blk h1.1.2 hb⟩, h1.2.trans (Lr.of_below hb _)⟩

set_option maxHeartbeats 1000000 in
theorem visitId (M : Nat) : CVis 102 #[.pointer (some ⟨M, 0, none⟩)] M (M + 1) (StB M) (fun _ => 0) idStep := by
  intro r v k g l ts a3 c3 fp w hS hat hlt hBw _
  obtain ⟨rfl, hO⟩ := hS
  have hb0 : Below w.heap.size w (w.alloc (Obj.cells #[.int .i64 k, .int .i64 g, .int .i64 l, .slice a3 ts.length c3] 52)) := (Below.refl _ _).alloc (Nat.le_refl _) _
  have HE := hid (show idStep r (.mk k g l ts) = (r && (k == 1 || (k == 2 || k == 3))) from rfl)
  have hat1 := hat.below hb0
  have hMlt : M < w.heap.size := by omega
  have yM0 : w.cell? ⟨M, 0, none⟩ = some (.bool r) := by rw [cell_of_block hO]; rfl
  have yM : ((w.alloc (Obj.cells #[.int .i64 k, .int .i64 g, .int .i64 l, .slice a3 ts.length c3] 52))).cell? ⟨M, 0, none⟩ = some (.bool r) := cell_keep yM0 hb0
  have yz0 : w.frozen? ⟨M, 0, none⟩ = false := frozen_of_block hO
  have HO := hid hO
  clear hat hlt hO
  cases r
  · have HF := hid (fun (x : Bool) => lr_cell2 (o := (Obj.cells #[.int .i64 k, .int .i64 g, .int .i64 l, .slice a3 ts.length c3] 52)) (x := x) HO.out)
    rw [Bool.false_and] at HE
    go_enter Try.func102, Try.ntmps102
    go_wp2_with fail
    first | go_ret | go_end0
    obtain ⟨q1, q2⟩ := HF.out false
    exact ⟨⟨_, rfl⟩, _, by rw [HE.out]; exact q1, q2⟩
  by_cases h1 : k = 1
  · subst h1
    have HF := hid (fun (x : Bool) => lr_cell2 (o := (Obj.cells #[.int .i64 1, .int .i64 g, .int .i64 l, .slice a3 ts.length c3] 52)) (x := x) HO.out)
    go_enter Try.func102, Try.ntmps102
    go_wp2_with fail
    first | go_ret | go_end0
    obtain ⟨q1, q2⟩ := HF.out true
    exact ⟨⟨_, rfl⟩, _, by rw [HE.out]; exact q1, q2⟩
  have e1 : (k == 1) = false := by simpa using h1
  rw [e1, Bool.false_or, Bool.true_and] at HE
  go_enter Try.func102, Try.ntmps102
  go_wp2_with fail
  refine (isFunOrPair_any _ _ _ _ hat1).mono ?_
  rintro e w1 ⟨rfl, hb1⟩
  have hbb := below_trans hb0 hb1
  have HF := hid (fun (x : Bool) => lr_cell (x := x) hbb HO.out)
  have yM1 : w1.cell? ⟨M, 0, none⟩ = some (.bool true) := cell_keep yM hb1
  have hM1 := frozen_of_block (o := 0) (blk HO.out hbb)
  rw [fp_mk, ← HE.out]
  generalize hx : idStep true (.mk k g l ts) = x
  have HX := hid hx
  clear hx HE
  go_wp2_with fail
  first | go_ret | go_end0
  obtain ⟨q1, q2⟩ := HF.out x
  exact ⟨⟨_, rfl⟩, _, by rw [HX.out]; exact q1, q2⟩

set_option maxHeartbeats 1000000 in
theorem implCoercionIdentity (t : Co) (v : Value) (fp : List Nat) (w : World) (hat : t.At w v fp) (hn : t.cnt ≤ 1048576) :
    Calls Try.prog 51 #[v] w fun e w' => e = .returned (.bool (idV t)) ∧ Below w.heap.size w w' := by
  have hlt := hat.lt
  obtain ⟨k, g, l, n, a, cap, rfl⟩ := hat.agg
  have hb0 : Below w.heap.size w (w.alloc (Obj.cells #[.int .i64 k, .int .i64 g, .int .i64 l, .slice a n cap] 52)) := (Below.refl _ _).alloc (Nat.le_refl _) _
  have hat1 := hat.below hb0
  have HV := hid (implCoercionValid_any t _ _ _ hat1)
  have HT := hid (show idV t = (vldC t && idC t) from rfl)
  have HLT := hid hlt
  clear hlt
  generalize vldC t = r at *
  go_enter Try.func51, Try.ntmps51
  go_wp2_with fail
  refine HV.out.mono ?_
  rintro e w1 ⟨rfl, hb1⟩
  cases r
  · go_wp2_with fail
    go_ret
    exact ⟨ret_b (by rw [HT.out, Bool.false_and]), alloc1 hb1⟩
  rw [Bool.true_and] at HT
  have b1 := below_trans hb0 hb1
  obtain ⟨z0, z1, z2, z3⟩ := box4 hb1
  have hal : Below w1.heap.size w1 (w1.alloc (Obj.cells #[.bool true] 4)) := (Below.refl _ _).alloc (Nat.le_refl _) _
  have hs1 : (w1.alloc (Obj.cells #[.bool true] 4)).heap.size = w1.heap.size + 1 := by simp
  replace z0 := cell_keep z0 hal
  replace z1 := cell_keep z1 hal
  replace z2 := cell_keep z2 hal
  replace z3 := cell_keep z3 hal
  have HL := hid (show StB w1.heap.size true (.bool true) (w1.alloc (Obj.cells #[.bool true] 4)) from ⟨rfl, alloc_new _ _⟩)
  have HAT := hid ((hat.below b1).below hal)
  have HLT1 := hid (show ∀ x ∈ fp, x < w1.heap.size from fun x hx => Nat.lt_of_lt_of_le (HLT.out x hx) b1.size)
  have HB1 := hid b1
  have HAL := hid hal
  clear b1 hat hat1
  go_wp2_with fail
  refine (eachCo_any 102 #[.pointer (some ⟨w1.heap.size, 0, none⟩)] w1.heap.size (w1.heap.size + 1) (StB w1.heap.size) (fun _ => 0) idStep callOk_id (Nat.lt_succ_self _) (fun _ _ => by omega)
    (fun r v w w' h hb => ⟨h.1, blk h.2 hb⟩) (fun r v w h b hb => by rw [h.1] at hb; cases hb) (visitId w1.heap.size)
    t true (.bool true) _ fp _ HL.out HAT.out HLT1.out (Nat.le_of_eq hs1.symm) hn (show 0 + 2 * (t.cnt + 1) ≤ 4194300 by omega)).mono ?_
  rintro e w3 ⟨⟨r3, rfl⟩, v3, ⟨rfl, hO3⟩, hr3⟩
  have hc3 : w3.cell? ⟨w1.heap.size, 0, none⟩ = some (.bool (ccN idStep true t)) := by rw [cell_of_block hO3]; rfl
  have HB3 := hid (hr3.below (Nat.lt_succ_self _) (Nat.le_of_eq hs1.symm) (fun b hb => by cases hb))
  rw [idN_eq, Bool.true_and] at hc3
  clear hO3 hr3
  go_wp2_with fail
  go_ret
  exact ⟨ret_b HT.out.symm, HB1.out.trans ((HAL.out.trans HB3.out).mono HB1.out.size)⟩
end Go.Proofs.Ytephhhnoobkbhaa

/- The program's walk over two types whose results are bools. -/
import Derived.StillTailTactics
import Derived.Deep.RegionHeld3
import Derived.Test.YtolhfcpmhhhjpaaSPkA
namespace Go.Proofs.Ytolhfcpmhhhjpaa
open Go.RowKit

mutual
def wkB (ap : Ty → Ty → Bool) : Ty → Ty → Bool
  | .mk k ts, .mk k' us => if k ≠ k' ∨ k = 1 then ap (.mk k ts) (.mk k' us) else wkBL ap ts us
def wkBL (ap : Ty → Ty → Bool) : List Ty → List Ty → Bool
  | t :: ts, u :: us => wkB ap t u && wkBL ap ts us
  | _, _ => true
end

def eitherB : Ty → Ty → Bool
  | .mk k _, .mk k' _ => (k == 1) || (k' == 1)
def secondB : Ty → Ty → Bool
  | .mk _ _, .mk k' _ => (k' == 1)

mutual
theorem wkB_cons : ∀ t u : Ty, wkB eitherB t u = cons t u
  | .mk k ts, .mk k' us => by
    simp only [wkB, cons, eitherB]
    rw [wkBL_cons ts us]
    by_cases h1 : k = 1
    · simp [h1]
    · by_cases h2 : k' = 1
      · by_cases h3 : k = k'
        · omega
        · simp [h2, h1]
      · by_cases h3 : k = k' <;> simp [h1, h2, h3]
theorem wkBL_cons : ∀ ts us : List Ty, wkBL eitherB ts us = consL ts us
  | t :: ts, u :: us => by simp only [wkBL, consL]; rw [wkB_cons t u, wkBL_cons ts us]
  | [], _ => by simp only [wkBL, consL]
  | _ :: _, [] => by simp only [wkBL, consL]
end

mutual
theorem wkB_prec : ∀ t u : Ty, wkB secondB t u = prec t u
  | .mk k ts, .mk k' us => by
    simp only [wkB, prec, secondB]
    rw [wkBL_prec ts us]
    by_cases h2 : k' = 1
    · simp [h2]
    · by_cases h3 : k = k'
      · subst h3
        simp [h2]
      · simp [h2, h3]
theorem wkBL_prec : ∀ ts us : List Ty, wkBL secondB ts us = precL ts us
  | t :: ts, u :: us => by simp only [wkBL, precL]; rw [wkB_prec t u, wkBL_prec ts us]
  | [], _ => by simp only [wkBL, precL]
  | _ :: _, [] => by simp only [wkBL, precL]
end

/-- What the loop over the parts has gathered: the pairs' answers, one by one. -/
theorem wkBL_all (ap : Ty → Ty → Bool) : ∀ (ts us : List Ty), ts.length = us.length → wkBL ap ts us = (List.zipWith (wkB ap) ts us).all id
  | [], [], _ => by simp only [wkBL]; rfl
  | t :: ts, u :: us, h => by simp only [wkBL, List.zipWith_cons_cons, List.all_cons, id]; rw [wkBL_all ap ts us (by simpa using h)]

/-- A slice value that reads as a list of bools. -/
def BlAt (w : World) (bs : List Bool) (s : Value) : Prop :=
  ∃ a cap, s = .slice a bs.length cap ∧ bs.length ≤ cap ∧ bs.length ≤ 9223372036854775807 ∧ ∀ i, (h : i < bs.length) → ∃ b o, a = some ⟨b, o, none⟩ ∧ w.cell? ⟨b, o + i, none⟩ = some (.bool bs[i])

theorem all_step {bs : List Bool} {k : Nat} (h : k < bs.length) : (bs.drop k).all id = (bs[k] && (bs.drop (k + 1)).all id) := by
  rw [List.drop_eq_getElem_cons h, List.all_cons]; rfl

set_option maxHeartbeats 400000 in
theorem allHold_any (k : Int) (bs : List Bool) (s : Value) (w : World) (hs : BlAt w bs s) :
    Calls Try.prog 76 #[.int .i64 k, s] w fun e w' => e = .returned (.bool (bs.all id)) ∧ w' = w := by
  obtain ⟨a, cap, rfl, hc, hm, hget⟩ := hs
  have HG := hid hget
  clear hget
  go_enter Try.func76, Try.ntmps76
  go_wp2_with fail
  go_loop [9] (fun i => ∃ j : Nat, j ≤ bs.length ∧ i = .int .i64 j ∧ (bs.drop j).all id = bs.all id) (fun i => bs.length - (intOf i).toNat)
  case atStart => exact ⟨0, Nat.zero_le _, rfl, rfl⟩
  case round =>
    obtain ⟨j, hj, rfl, hdr⟩ := hrel
    have HD := hid hdr
    clear hdr
    by_cases hlk : j < bs.length
    · obtain ⟨b, o, rfl, c0⟩ := HG.out j hlk
      have HST := hid (all_step hlk)
      generalize bs[j] = r at *
      cases r
      · go_wp2_with fail
        go_ret
        exact ⟨ret_b (by rw [← HD.out, HST.out, Bool.false_and]), rfl⟩
      · go_wp2_with fail
        go_round
        case rel => exact ⟨j + 1, by omega, by go_num, by rw [← HD.out, HST.out, Bool.true_and]⟩
        case measure => simp [intOf]; omega
    · go_wp2_with fail
      go_ret
      exact ⟨ret_b (by rw [← HD.out, List.drop_of_length_le (by omega)]; rfl), rfl⟩

/-- What the walk asks of the function that answers where the types part. -/
def ApC (fa : FuncId) (ap : Ty → Ty → Bool) : Prop := ∀ (t u : Ty) (v1 v2 : Value) (f1 f2 : List Nat) (w : World), t.At w v1 f1 → u.At w v2 f2 →
  Calls Try.prog fa #[v1, v2] w fun e w' => e = .returned (.bool (ap t u)) ∧ Below w.heap.size w w'

/-- The function may be called by its value. -/
def CallOk (fa : FuncId) : Prop := ∀ (args : Array Value) (w : World), (callFunc fa args).run Try.prog w = .ok (.enter fa args) w

def WbC (fa : FuncId) (ap : Ty → Ty → Bool) (t : Ty) : Prop := ∀ (u : Ty) (v1 v2 : Value) (f1 f2 : List Nat) (w : World), t.At w v1 f1 → u.At w v2 f2 → wf t → wf u →
  Calls Try.prog 74 #[v1, v2, .func (.func fa) #[] #[], .func (.func 76) #[] #[]] w fun e w' => e = .returned (.bool (wkB ap t u)) ∧ Below w.heap.size w w'

set_option maxHeartbeats 800000 in
set_option maxRecDepth 100000 in
theorem walkB_apart (fa : FuncId) (ap : Ty → Ty → Bool) (hA : ApC fa ap) (hfa : CallOk fa) (k : Int) (ts : List Ty) (k' : Int) (us : List Ty) (hk : k ≠ k' ∨ k = 1) (v1 v2 : Value) (f1 f2 : List Nat) (w : World) (h1 : Ty.At w (.mk k ts) v1 f1) (h2 : Ty.At w (.mk k' us) v2 f2) :
  Calls Try.prog 74 #[v1, v2, .func (.func fa) #[] #[], .func (.func 76) #[] #[]] w fun e w' => e = .returned (.bool (wkB ap (.mk k ts) (.mk k' us))) ∧ Below w.heap.size w w' := by
  have HA := hid hA
  obtain ⟨s1, rfl, hs1⟩ := Ty.at_mk.1 h1
  obtain ⟨s2, rfl, hs2⟩ := Ty.at_mk.1 h2
  obtain ⟨a, cap, rfl⟩ := hs1.shape
  obtain ⟨a2, cap2, rfl⟩ := hs2.shape
  have HT := hid (show wkB ap (.mk k ts) (.mk k' us) = ap (.mk k ts) (.mk k' us) by simp only [wkB]; rw [if_pos hk])
  have hal : Below w.heap.size w ((w.alloc (Obj.cells #[.int .i64 k, .slice a ts.length cap] 25)).alloc (Obj.cells #[.int .i64 k', .slice a2 us.length cap2] 25)) := ((Below.refl _ _).alloc (Nat.le_refl _) _).alloc (by simp) _
  have HAL := hid hal
  have HF := hid hfa
  clear hal hA hfa
  by_cases hkk : k = k'
  · subst hkk
    obtain rfl : k = 1 := by rcases hk with h | h <;> simp_all
    clear hk
    have hfa := HF.out
    unfold CallOk at hfa
    go_enter Try.func74, Try.ntmps74
    go_wp2_with fail
    refine (HA.out _ _ _ _ _ _ _ (h1.below HAL.out) (h2.below HAL.out)).mono ?_
    rintro e w1 ⟨rfl, hb⟩
    go_wp2_with fail
    go_ret
    exact ⟨ret_b HT.out.symm, alloc2 hb⟩
  · have hk1 : (k == k') = false := by simpa using hkk
    have hk2 : (k != k') = true := by simpa using hkk
    clear hkk hk
    have hfa := HF.out
    unfold CallOk at hfa
    go_enter Try.func74, Try.ntmps74
    go_wp2_with fail
    refine (HA.out _ _ _ _ _ _ _ (h1.below HAL.out) (h2.below HAL.out)).mono ?_
    rintro e w1 ⟨rfl, hb⟩
    go_wp2_with fail
    go_ret
    exact ⟨ret_b HT.out.symm, alloc2 hb⟩

/-- The block of the parts, of which the first j have been answered. -/
def PartsB (M : Nat) (n : Nat) (bs : List Bool) (wr : World) : Prop :=
  ∃ C : Array Value, wr.heap[M]? = some (.cells C 4 (0, 0)) ∧ C.size = n ∧ bs.length ≤ n ∧ ∀ i, (h : i < bs.length) → C[i]? = some (.bool bs[i])

theorem PartsB.below {M n : Nat} {bs : List Bool} {w w1 : World} (h : PartsB M n bs w) (hb : Below w.heap.size w w1) : PartsB M n bs w1 := by
  obtain ⟨C, hB, h⟩ := h
  exact ⟨C, (hb.block _ (lt_of_block hB)).trans hB, h⟩

theorem PartsB.set {M n k : Nat} {bs : List Bool} {w : World} (h : PartsB M n bs w) (hk : bs.length = k) (hlt : k < n) (r : Bool) : PartsB M n (bs ++ [r]) (w.setCell ⟨M, k, none⟩ (.bool r)) := by
  subst hk
  obtain ⟨C, hB, hC, hn, hg⟩ := h
  refine ⟨_, heap_setCell_at hB _, by simp [hC], by simp; omega, fun i hi => ?_⟩
  simp only [List.length_append, List.length_cons, List.length_nil] at hi
  by_cases h : i < bs.length
  · rw [Array.getElem?_setIfInBounds_ne (by omega), hg i h, List.getElem_append_left h]
  · obtain rfl : i = bs.length := by omega
    simp [Array.getElem?_setIfInBounds, hC]
    omega

theorem PartsB.cell {M n k : Nat} {bs : List Bool} {w w1 : World} (h : PartsB M n bs w) (hb : Below w.heap.size w w1) (hlt : k < n) : ∃ y, w1.cell? ⟨M, k, none⟩ = some y ∧ w1.frozen? ⟨M, k, none⟩ = false := by
  obtain ⟨C, hB, hC, _⟩ := h.below hb
  exact ⟨C[k]'(by omega), by rw [cell_of_block hB]; exact Array.getElem?_eq_getElem _, frozen_of_block hB⟩

theorem PartsB.done {M n : Nat} {bs : List Bool} {w : World} (h : PartsB M n bs w) (hn : bs.length = n) (hm : n ≤ 9223372036854775807) : BlAt w bs (.slice (some ⟨M, 0, none⟩) n n) := by
  obtain ⟨C, hB, hC, _, hg⟩ := h
  subst hn
  exact ⟨_, _, rfl, Nat.le_refl _, hm, fun i hi => ⟨M, 0, rfl, by rw [Nat.zero_add, cell_of_block hB]; exact hg i hi⟩⟩

theorem Try.underBools : Try.prog.underlying 105 = some (.slice 4) := by kernel_rfl
theorem Try.infoBool : (Try.prog.info? 4).map (fun i => (i.zero, i.size, i.bytes)) = some (some (.bool false), 1, 1) := by kernel_rfl

theorem zip_take {ap : Ty → Ty → Bool} {ts us : List Ty} {j : Nat} (h : j < ts.length) (h' : j < us.length) : (List.zipWith (wkB ap) ts us).take (j + 1) = (List.zipWith (wkB ap) ts us).take j ++ [wkB ap ts[j] us[j]] := by
  rw [List.take_succ_eq_append_getElem (by simp; omega)]
  simp

set_option maxHeartbeats 1600000 in
set_option maxRecDepth 100000 in
theorem walkB_same (fa : FuncId) (ap : Ty → Ty → Bool) (k : Int) (ts us : List Ty) (hk : k ≠ 1) (hlen : ts.length = us.length) (hmax : ts.length ≤ 1048576) (ih : ∀ t ∈ ts, WbC fa ap t) (hw1 : ∀ t ∈ ts, wf t) (hw2 : ∀ t ∈ us, wf t)
    (v1 v2 : Value) (f1 f2 : List Nat) (w : World) (h1 : Ty.At w (.mk k ts) v1 f1) (h2 : Ty.At w (.mk k us) v2 f2) :
  Calls Try.prog 74 #[v1, v2, .func (.func fa) #[] #[], .func (.func 76) #[] #[]] w fun e w' => e = .returned (.bool (wkB ap (.mk k ts) (.mk k us))) ∧ Below w.heap.size w w' := by
  have HIH := hid ih
  have HW1 := hid hw1
  have HW2 := hid hw2
  clear ih hw1 hw2
  obtain ⟨s1, rfl, hs1⟩ := Ty.at_mk.1 h1
  obtain ⟨s2, rfl, hs2⟩ := Ty.at_mk.1 h2
  obtain ⟨a, cap, rfl, hc, hm, hget⟩ := hs1.openA
  have HG := hid hget
  obtain ⟨a2, cap2, rfl, hc2, hm2, hget2⟩ := hs2.openA
  have HG2 := hid hget2
  clear hget hget2 hs1 hs2 h1 h2
  have HT := hid (show wkB ap (.mk k ts) (.mk k us) = (List.zipWith (wkB ap) ts us).all id by simp only [wkB]; rw [if_neg (by simp [hk]), wkBL_all ap ts us hlen])
  have hal : Below w.heap.size w ((w.alloc (Obj.cells #[.int .i64 k, .slice a ts.length cap] 25)).alloc (Obj.cells #[.int .i64 k, .slice a2 us.length cap2] 25)) := ((Below.refl _ _).alloc (Nat.le_refl _) _).alloc (by simp) _
  have HAL := hid hal
  have hk1 : (k == 1) = false := by simpa using hk
  have hle : ts.length ≤ us.length := by omega
  have HLEN := hid hlen
  clear hal hk hlen
  by_cases h0 : ts.length = 0
  · have ht : ts = [] := List.length_eq_zero_iff.1 h0
    subst ht
    go_enter Try.func74, Try.ntmps74
    go_wp2_with fail
    go_loop [35] (fun i => i = .int .i64 0) (fun _ => 0)
    case atStart => rfl
    case round =>
      obtain rfl := hrel
      go_wp2_with fail
      refine (allHold_any k [] _ _ ⟨none, 0, rfl, Nat.le_refl _, by simp, by simp⟩).mono ?_
      rintro e w1 ⟨rfl, rfl⟩
      go_wp2_with fail
      go_ret
      exact ⟨ret_b (by rw [HT.out]; rfl), HAL.out⟩
  · have hpos : 0 < ts.length := by omega
    have hpos' : (0 : Int) < (ts.length : Int) := by omega
    clear h0
    obtain ⟨Z, hZ, hmk⟩ : ∃ Z : Array Value, Z.size = ts.length ∧ ∀ w : World, (Instr.makeSlice 105 (.int .i64 (ts.length : Int)) (.int .i64 (ts.length : Int))).run Try.prog w = .ok (.slice (some ⟨w.heap.size, 0, none⟩) ts.length ts.length) (w.alloc (.cells Z 4)) := by
      obtain ⟨i0, hi, hz0, hz1, hz2⟩ := info_parts (P := Try.prog) (e := 4) Try.infoBool
      have r := fun w : World => run_make w _ _ i0 _ Try.underBools hi hz0 .i64 .i64 (ts.length : Int) (ts.length : Int) (by omega) (by omega) (by rw [hz2]; omega) (by omega)
      simp only [Int.toNat_natCast, hz1, Nat.mul_one] at r
      exact ⟨_, size_madeCells _ _, r⟩
    have HZ := hid hZ
    clear hZ
    go_enter Try.func74, Try.ntmps74
    go_wp2_with fail
    go_loopw [35] (fun i wr => ∃ j : Nat, j ≤ ts.length ∧ i = .int .i64 j ∧ PartsB (w.heap.size + 1 + 1) ts.length ((List.zipWith (wkB ap) ts us).take j) wr ∧ Below ((w.alloc (Obj.cells #[.int .i64 k, .slice a ts.length cap] 25)).alloc (Obj.cells #[.int .i64 k, .slice a2 us.length cap2] 25)).heap.size ((w.alloc (Obj.cells #[.int .i64 k, .slice a ts.length cap] 25)).alloc (Obj.cells #[.int .i64 k, .slice a2 us.length cap2] 25)) wr) (fun i _ => ts.length - (intOf i).toNat)
    case atStart =>
      have hs : ((w.alloc (Obj.cells #[.int .i64 k, .slice a ts.length cap] 25)).alloc (Obj.cells #[.int .i64 k, .slice a2 us.length cap2] 25)).heap.size = w.heap.size + 1 + 1 := by simp
      exact ⟨0, Nat.zero_le _, rfl, ⟨Z, by rw [← hs]; exact alloc_new _ _, HZ.out, by simp, by simp⟩, (Below.refl _ _).alloc (Nat.le_refl _) _⟩
    case round =>
      obtain ⟨j, hj, rfl, hP, hb⟩ := hrel
      obtain ⟨x0, x1, x2, x3⟩ := box_cells2 hb
      by_cases hlk : j < ts.length
      · have hlk2 : j < us.length := by omega
        obtain ⟨b, o, k1, n1, a1, cap1, g1, rfl, hblt, c0, c1, hat, hf⟩ := HG.out j hlk
        obtain ⟨b2, o2, k3, n3, a3, cap3, g2, rfl, hblt2, e0, e1, hat2, hf2⟩ := HG2.out j hlk2
        have hbw := alloc2 hb
        have d0 := (hbw.cell (p := ⟨b, o + j * 2, none⟩) hblt).trans c0
        have d1 := (hbw.cell (p := ⟨b, o + j * 2 + 1, none⟩) hblt).trans c1
        have d2 := (hbw.cell (p := ⟨b2, o2 + j * 2, none⟩) hblt2).trans e0
        have d3 := (hbw.cell (p := ⟨b2, o2 + j * 2 + 1, none⟩) hblt2).trans e1
        clear c0 c1 e0 e1
        have HWa := hid (HW1.out _ (List.getElem_mem hlk))
        have HWb := hid (HW2.out _ (List.getElem_mem hlk2))
        have HS := hid (zip_take (ap := ap) hlk hlk2)
        go_wp2_with fail
        have hB2 : w.heap.size + 1 + 1 ≤ wr.heap.size := by have := hb.size; simp at this; omega
        have l0 : w.heap.size < w.heap.size + 1 + 1 := by omega
        have l1 : w.heap.size + 1 < w.heap.size + 1 + 1 := by omega
        have l2 : b < w.heap.size + 1 + 1 := by omega
        have l3 : b2 < w.heap.size + 1 + 1 := by omega
        go_region_held3 (fun w' => Below (w.heap.size + 1 + 1) wr w' ∧ w'.cell? ⟨w.heap.size, 0, none⟩ = some (.int .i64 k) ∧ w'.cell? ⟨w.heap.size, 1, none⟩ = some (.slice (some ⟨b, o, none⟩) ts.length cap) ∧ w'.cell? ⟨w.heap.size + 1, 0, none⟩ = some (.int .i64 k) ∧ w'.cell? ⟨w.heap.size + 1, 1, none⟩ = some (.slice (some ⟨b2, o2, none⟩) us.length cap2) ∧
            w'.cell? ⟨b, o + j * 2, none⟩ = some (.int .i64 k1) ∧ w'.cell? ⟨b, o + j * 2 + 1, none⟩ = some (.slice a1 n1 cap1) ∧ w'.cell? ⟨b2, o2 + j * 2, none⟩ = some (.int .i64 k3) ∧ w'.cell? ⟨b2, o2 + j * 2 + 1, none⟩ = some (.slice a3 n3 cap3))
          ((refine (fun hB => ⟨hB, cell_keepB x0 hB l0, cell_keepB x1 hB l0, cell_keepB x2 hB l1, cell_keepB x3 hB l1, cell_keepB d0 hB l2, cell_keepB d1 hB l2, cell_keepB d2 hB l3, cell_keepB d3 hB l3⟩ : Below (w.heap.size + 1 + 1) wr _ → _) ?_; (first | exact (below_drew wr).mono hB2 | exact hbd.mono hB2 | exact (hbd.mono hB2).setCell (p := ⟨w.heap.size + 1 + 1, j, none⟩) (Nat.le_refl _) _)))
          (first
            | (go_at_call 74; refine (HIH.out _ (List.getElem_mem hlk) _ _ _ _ _ _ (hat.below hbw.drew) (hat2.below hbw.drew) HWa.out HWb.out).mono ?_; rintro e w1 ⟨rfl, hb1⟩; have hbd := below_trans (below_drew wr) hb1; obtain ⟨y, hy, hz⟩ := hP.cell hbd hlk))
        have hP1 := hP.below hbd
        have hbb := hb.trans (hbd.mono hb.size)
        clear hb hb1 hat hat2 d0 d1 d2 d3 hbw x0 x1 x2 x3 hP
        generalize wkB ap ts[j] us[j] = r at *
        go_wp2_with fail
        refine ⟨⟨j + 1, by omega, by go_num, ?_, ?_⟩, by simp [intOf]; omega⟩
        · rw [HS.out]
          exact hP1.set (by simp; have := HLEN.out; omega) hlk r
        · exact hbb.setCell (p := ⟨w.heap.size + 1 + 1, j, none⟩) (by simp) _
      · have hz : ((List.zipWith (wkB ap) ts us).take j).length = ts.length := by simp; have := HLEN.out; omega
        have hd := hP.done hz (by omega)
        rw [List.take_of_length_le (by simp; omega)] at hd
        have HD := hid hd
        clear hd hP hz
        go_wp2_with fail
        refine (allHold_any k _ _ _ HD.out).mono ?_
        rintro e w1 ⟨rfl, rfl⟩
        have HT2 := HT.out
        generalize (List.zipWith (wkB ap) ts us).all id = r at *
        have HT3 := hid HT2
        clear HT2 HT HD
        go_wp2_with fail
        go_ret
        exact ⟨ret_b HT3.out.symm, alloc2 hb⟩

theorem wf_small {k : Int} {ts : List Ty} (h : wf (.mk k ts)) : ts.length ≤ 2 := by
  have := (wf_mk h).1
  unfold kidsOf at this
  split at this
  · omega
  · split at this <;> omega

theorem walkB_any (fa : FuncId) (ap : Ty → Ty → Bool) (hA : ApC fa ap) (hfa : CallOk fa) : ∀ t : Ty, WbC fa ap t := Ty.ind fun k ts ih => by
  intro u v1 v2 f1 f2 w h1 h2 hw1 hw2
  obtain ⟨k', us, rfl⟩ := u.shape
  by_cases hk : k ≠ k' ∨ k = 1
  · exact walkB_apart fa ap hA hfa k ts k' us hk v1 v2 f1 f2 w h1 h2
  · have hk1 : k ≠ 1 := fun h => hk (Or.inr h)
    have hk2 : k = k' := by
      by_cases h : k = k'
      · exact h
      · exact absurd (Or.inl h) hk
    subst hk2
    exact walkB_same fa ap k ts us hk1 (wf_len hw1 hw2) (Nat.le_trans (wf_small hw1) (by omega)) ih (wf_mk hw1).2 (wf_mk hw2).2 v1 v2 f1 f2 w h1 h2

end Go.Proofs.Ytolhfcpmhhhjpaa

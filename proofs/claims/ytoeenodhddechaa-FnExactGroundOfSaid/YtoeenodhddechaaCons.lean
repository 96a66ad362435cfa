/- Consistency and precision as plain functions, and the specification's functions. -/
import Derived.Test.YtoeenodhddechaaShape
import Derived.StillTailTactics
namespace Go.Proofs.Ytoeenodhddechaa
open Go.RowKit

mutual
/-- Consistent, of well-formed types. -/
def cons : Ty → Ty → Bool
  | .mk k ts, .mk k' us => if k = 1 ∨ k' = 1 then true else if k = k' then consL ts us else false
def consL : List Ty → List Ty → Bool
  | t :: ts, u :: us => cons t u && consL ts us
  | _, _ => true
end

mutual
/-- At least as precise, of well-formed types. -/
def prec : Ty → Ty → Bool
  | .mk k ts, .mk k' us => if k' = 1 then true else if k = k' then precL ts us else false
def precL : List Ty → List Ty → Bool
  | t :: ts, u :: us => prec t u && precL ts us
  | _, _ => true
end

/-- Well formed, to some depth. -/
def wf (t : Ty) : Prop := ∃ d, shp d t = true

theorem wf_mk {k : Int} {ts : List Ty} (h : wf (.mk k ts)) : kidsOf k = (ts.length : Int) ∧ ∀ t ∈ ts, wf t := by
  obtain ⟨d, hd⟩ := h
  cases d with
  | zero => simp [shp] at hd
  | succ d =>
    simp only [shp, Bool.and_eq_true, beq_iff_eq, List.all_eq_true] at hd
    exact ⟨hd.1, fun t ht => ⟨d, hd.2 t ht⟩⟩

theorem wf_of_vld {t : Ty} (h : vld t = true) : wf t := ⟨4, h⟩

theorem wf_len {k : Int} {ts us : List Ty} (h : wf (.mk k ts)) (h' : wf (.mk k us)) : ts.length = us.length := by
  have := (wf_mk h).1
  have := (wf_mk h').1
  omega

theorem consL_step {ts us : List Ty} {k : Nat} (h : k < ts.length) (h' : k < us.length) : consL (ts.drop k) (us.drop k) = (cons ts[k] us[k] && consL (ts.drop (k + 1)) (us.drop (k + 1))) := by
  rw [List.drop_eq_getElem_cons h, List.drop_eq_getElem_cons h', consL]

theorem precL_step {ts us : List Ty} {k : Nat} (h : k < ts.length) (h' : k < us.length) : precL (ts.drop k) (us.drop k) = (prec ts[k] us[k] && precL (ts.drop (k + 1)) (us.drop (k + 1))) := by
  rw [List.drop_eq_getElem_cons h, List.drop_eq_getElem_cons h', precL]

theorem box_cells2 {w wr : World} {x y x' y' : Value} {T T' : TypeId} (h : Below ((w.alloc (Obj.cells #[x, y] T)).alloc (Obj.cells #[x', y'] T')).heap.size ((w.alloc (Obj.cells #[x, y] T)).alloc (Obj.cells #[x', y'] T')) wr) :
    wr.cell? ⟨w.heap.size, 0, none⟩ = some x ∧ wr.cell? ⟨w.heap.size, 1, none⟩ = some y ∧ wr.cell? ⟨w.heap.size + 1, 0, none⟩ = some x' ∧ wr.cell? ⟨w.heap.size + 1, 1, none⟩ = some y' := by
  have hs : (w.alloc (Obj.cells #[x, y] T)).heap.size = w.heap.size + 1 := by simp
  have h1 : wr.heap[w.heap.size + 1]? = some (Obj.cells #[x', y'] T') := by
    rw [h.block (w.heap.size + 1) (by simp), ← hs]
    exact alloc_new _ _
  have h0 := (h.block w.heap.size (by simp; omega)).trans ((Below.heap_alloc _ _ _ (by simp)).trans (alloc_new w _))
  exact ⟨by rw [cell_of_block h0]; rfl, by rw [cell_of_block h0]; rfl, by rw [cell_of_block h1]; rfl, by rw [cell_of_block h1]; rfl⟩

theorem alloc2 {w w' : World} {o o' : Obj} (h : Below ((w.alloc o).alloc o').heap.size ((w.alloc o).alloc o') w') : Below w.heap.size w w' := alloc1 (alloc1 h)

def L1cC (t : Ty) : Prop := ∀ (u : Ty) (v1 v2 : Value) (f1 f2 : List Nat) (w : World), t.At w v1 f1 → u.At w v2 f2 → wf t → wf u →
  Calls Try.prog 52 #[v1, v2] w fun e w' => e = .returned (.bool (cons t u)) ∧ Below w.heap.size w w'

set_option maxHeartbeats 800000 in
set_option maxRecDepth 100000 in
theorem l1Consistent_of (k : Int) (ts : List Ty) (ih : ∀ t ∈ ts, L1cC t) : L1cC (.mk k ts) := by
  intro u v1 v2 f1 f2 w h1 h2 hw1 hw2
  have HIH := hid ih
  clear ih
  obtain ⟨k', us, rfl⟩ := u.shape
  obtain ⟨s1, rfl, hs1⟩ := Ty.at_mk.1 h1
  obtain ⟨s2, rfl, hs2⟩ := Ty.at_mk.1 h2
  obtain ⟨a, cap, rfl, hc, hm, hget⟩ := hs1.openA
  have HG := hid hget
  obtain ⟨a2, cap2, rfl, hc2, hm2, hget2⟩ := hs2.openA
  have HG2 := hid hget2
  have HW1 := hid (wf_mk hw1).2
  have HW2 := hid (wf_mk hw2).2
  have HLEN := hid (show k = k' → ts.length = us.length from fun e => by subst e; exact wf_len hw1 hw2)
  clear hget hget2 hs1 hs2 h1 h2 hw1 hw2
  have hal : Below w.heap.size w ((w.alloc (Obj.cells #[.int .i64 k, .slice a ts.length cap] 25)).alloc (Obj.cells #[.int .i64 k', .slice a2 us.length cap2] 25)) := ((Below.refl _ _).alloc (Nat.le_refl _) _).alloc (by simp) _
  have HAL := hid hal
  clear hal
  by_cases hk : k = 1
  · have HT := hid (show cons (.mk k ts) (.mk k' us) = true by simp [cons, hk])
    have hk0 : (k == 1) = true := by simp [hk]
    clear hk
    go_enter Try.func52, Try.ntmps52
    go_wp2_with fail
    go_ret
    exact ⟨ret_b HT.out.symm, HAL.out⟩
  have hk0 : (k == 1) = false := by simpa using hk
  have hkn : ¬ k = 1 := hk
  clear hk
  by_cases hk : k' = 1
  · have HT := hid (show cons (.mk k ts) (.mk k' us) = true by simp [cons, hk])
    have hk0' : (k' == 1) = true := by simp [hk]
    clear hk
    go_enter Try.func52, Try.ntmps52
    go_wp2_with fail
    go_ret
    exact ⟨ret_b HT.out.symm, HAL.out⟩
  have hk0' : (k' == 1) = false := by simpa using hk
  by_cases hkk : k = k'
  · have hlen := HLEN.out hkk
    have HT := hid (show cons (.mk k ts) (.mk k' us) = consL ts us by simp [cons, *])
    subst hkk
    have hle : ts.length ≤ us.length := by omega
    clear hlen HLEN
    go_enter Try.func52, Try.ntmps52
    go_wp2_with fail
    go_loopw [5] (fun i wr => ∃ j : Nat, j ≤ ts.length ∧ i = .int .i64 j ∧ consL (ts.drop j) (us.drop j) = consL ts us ∧ Below ((w.alloc (Obj.cells #[.int .i64 k, .slice a ts.length cap] 25)).alloc (Obj.cells #[.int .i64 k, .slice a2 us.length cap2] 25)).heap.size ((w.alloc (Obj.cells #[.int .i64 k, .slice a ts.length cap] 25)).alloc (Obj.cells #[.int .i64 k, .slice a2 us.length cap2] 25)) wr) (fun i _ => ts.length - (intOf i).toNat)
    case atStart => exact ⟨0, Nat.zero_le _, rfl, rfl, Below.refl _ _⟩
    case round =>
      obtain ⟨j, hj, rfl, hdr, hb⟩ := hrel
      have HD := hid hdr
      clear hdr
      obtain ⟨x0, x1, x2, x3⟩ := box_cells2 hb
      by_cases hlk : j < ts.length
      · have hlk2 : j < us.length := by omega
        obtain ⟨b, o, k1, n1, a1, cap1, g1, rfl, hblt, c0, c1, hat, hf⟩ := HG.out j hlk
        obtain ⟨b2, o2, k3, n3, a3, cap3, g2, rfl, hblt2, e0, e1, hat2, hf2⟩ := HG2.out j hlk2
        have hbw := alloc2 hb
        have d0 := (hbw.cell (p := ⟨b, o + j * 2, none⟩) hblt).trans c0
        have d1 := (hbw.cell (p := ⟨b, o + j * 2 + 1, none⟩) hblt).trans c1
        have d2 := (hbw.cell (p := ⟨b2, o2 + j * 2, none⟩) hblt2).trans e0
        have d3 := (hbw.cell (p := ⟨b2, o2 + j * 2 + 1, none⟩) hblt2).trans e1
        clear c0 c1 e0 e1
        have HST := hid (consL_step hlk hlk2)
        have HWa := hid (HW1.out _ (List.getElem_mem hlk))
        have HWb := hid (HW2.out _ (List.getElem_mem hlk2))
        go_wp2_with fail
        go_still_tail 10, (by kernel_rfl)
        go_wp2_with fail
        refine (HIH.out _ (List.getElem_mem hlk) _ _ _ _ _ _ (hat.below ?_) (hat2.below ?_) HWa.out HWb.out).mono ?_
        · exact hbw.drew
        · exact hbw.drew
        rintro e w1 ⟨rfl, hb1⟩
        have hbb := hb.trans ((below_trans (below_drew wr) hb1).mono hb.size)
        clear hb hb1 hat hat2 d0 d1 d2 d3 hbw
        generalize cons ts[j] us[j] = r at *
        cases r
        · go_wp2_with fail
          go_ret
          exact ⟨ret_b (by rw [HT.out, ← HD.out, HST.out, Bool.false_and]), alloc2 hbb⟩
        · go_wp2_with fail
          go_roundw
          case rel => exact ⟨j + 1, by omega, by go_num, by rw [← HD.out, HST.out, Bool.true_and], hbb⟩
          case measure => simp [intOf]; omega
      · go_wp2_with fail
        go_ret
        exact ⟨ret_b (by rw [HT.out, ← HD.out, List.drop_of_length_le (by omega)]; simp only [consL]), alloc2 hb⟩
  · have HT := hid (show cons (.mk k ts) (.mk k' us) = false by simp [cons, *])
    have hk1 : (k == k') = false := by simpa using hkk
    have hk2 : (k != k') = true := by simpa using hkk
    clear hkk
    go_enter Try.func52, Try.ntmps52
    go_wp2_with fail
    go_ret
    exact ⟨ret_b HT.out.symm, HAL.out⟩

theorem l1Consistent_any : ∀ t : Ty, L1cC t := Ty.ind l1Consistent_of

def L1pC (t : Ty) : Prop := ∀ (u : Ty) (v1 v2 : Value) (f1 f2 : List Nat) (w : World), t.At w v1 f1 → u.At w v2 f2 → wf t → wf u →
  Calls Try.prog 67 #[v1, v2] w fun e w' => e = .returned (.bool (prec t u)) ∧ Below w.heap.size w w'

set_option maxHeartbeats 800000 in
set_option maxRecDepth 100000 in
theorem l1Precise_of (k : Int) (ts : List Ty) (ih : ∀ t ∈ ts, L1pC t) : L1pC (.mk k ts) := by
  intro u v1 v2 f1 f2 w h1 h2 hw1 hw2
  have HIH := hid ih
  clear ih
  obtain ⟨k', us, rfl⟩ := u.shape
  obtain ⟨s1, rfl, hs1⟩ := Ty.at_mk.1 h1
  obtain ⟨s2, rfl, hs2⟩ := Ty.at_mk.1 h2
  obtain ⟨a, cap, rfl, hc, hm, hget⟩ := hs1.openA
  have HG := hid hget
  obtain ⟨a2, cap2, rfl, hc2, hm2, hget2⟩ := hs2.openA
  have HG2 := hid hget2
  have HW1 := hid (wf_mk hw1).2
  have HW2 := hid (wf_mk hw2).2
  have HLEN := hid (show k = k' → ts.length = us.length from fun e => by subst e; exact wf_len hw1 hw2)
  clear hget hget2 hs1 hs2 h1 h2 hw1 hw2
  have hal : Below w.heap.size w ((w.alloc (Obj.cells #[.int .i64 k, .slice a ts.length cap] 25)).alloc (Obj.cells #[.int .i64 k', .slice a2 us.length cap2] 25)) := ((Below.refl _ _).alloc (Nat.le_refl _) _).alloc (by simp) _
  have HAL := hid hal
  clear hal
  by_cases hk : k' = 1
  · have HT := hid (show prec (.mk k ts) (.mk k' us) = true by simp [prec, hk])
    have hk0' : (k' == 1) = true := by simp [hk]
    clear hk
    go_enter Try.func67, Try.ntmps67
    go_wp2_with fail
    go_ret
    exact ⟨ret_b HT.out.symm, HAL.out⟩
  have hk0' : (k' == 1) = false := by simpa using hk
  by_cases hkk : k = k'
  · have hlen := HLEN.out hkk
    have HT := hid (show prec (.mk k ts) (.mk k' us) = precL ts us by simp [prec, *])
    subst hkk
    have hle : ts.length ≤ us.length := by omega
    clear hlen HLEN
    go_enter Try.func67, Try.ntmps67
    go_wp2_with fail
    go_loopw [5] (fun i wr => ∃ j : Nat, j ≤ ts.length ∧ i = .int .i64 j ∧ precL (ts.drop j) (us.drop j) = precL ts us ∧ Below ((w.alloc (Obj.cells #[.int .i64 k, .slice a ts.length cap] 25)).alloc (Obj.cells #[.int .i64 k, .slice a2 us.length cap2] 25)).heap.size ((w.alloc (Obj.cells #[.int .i64 k, .slice a ts.length cap] 25)).alloc (Obj.cells #[.int .i64 k, .slice a2 us.length cap2] 25)) wr) (fun i _ => ts.length - (intOf i).toNat)
    case atStart => exact ⟨0, Nat.zero_le _, rfl, rfl, Below.refl _ _⟩
    case round =>
      obtain ⟨j, hj, rfl, hdr, hb⟩ := hrel
      have HD := hid hdr
      clear hdr
      obtain ⟨x0, x1, x2, x3⟩ := box_cells2 hb
      by_cases hlk : j < ts.length
      · have hlk2 : j < us.length := by omega
        obtain ⟨b, o, k1, n1, a1, cap1, g1, rfl, hblt, c0, c1, hat, hf⟩ := HG.out j hlk
        obtain ⟨b2, o2, k3, n3, a3, cap3, g2, rfl, hblt2, e0, e1, hat2, hf2⟩ := HG2.out j hlk2
        have hbw := alloc2 hb
        have d0 := (hbw.cell (p := ⟨b, o + j * 2, none⟩) hblt).trans c0
        have d1 := (hbw.cell (p := ⟨b, o + j * 2 + 1, none⟩) hblt).trans c1
        have d2 := (hbw.cell (p := ⟨b2, o2 + j * 2, none⟩) hblt2).trans e0
        have d3 := (hbw.cell (p := ⟨b2, o2 + j * 2 + 1, none⟩) hblt2).trans e1
        clear c0 c1 e0 e1
        have HST := hid (precL_step hlk hlk2)
        have HWa := hid (HW1.out _ (List.getElem_mem hlk))
        have HWb := hid (HW2.out _ (List.getElem_mem hlk2))
        go_wp2_with fail
        go_still_tail 10, (by kernel_rfl)
        go_wp2_with fail
        refine (HIH.out _ (List.getElem_mem hlk) _ _ _ _ _ _ (hat.below ?_) (hat2.below ?_) HWa.out HWb.out).mono ?_
        · exact hbw.drew
        · exact hbw.drew
        rintro e w1 ⟨rfl, hb1⟩
        have hbb := hb.trans ((below_trans (below_drew wr) hb1).mono hb.size)
        clear hb hb1 hat hat2 d0 d1 d2 d3 hbw
        generalize prec ts[j] us[j] = r at *
        cases r
        · go_wp2_with fail
          go_ret
          exact ⟨ret_b (by rw [HT.out, ← HD.out, HST.out, Bool.false_and]), alloc2 hbb⟩
        · go_wp2_with fail
          go_roundw
          case rel => exact ⟨j + 1, by omega, by go_num, by rw [← HD.out, HST.out, Bool.true_and], hbb⟩
          case measure => simp [intOf]; omega
      · go_wp2_with fail
        go_ret
        exact ⟨ret_b (by rw [HT.out, ← HD.out, List.drop_of_length_le (by omega)]; simp only [precL]), alloc2 hb⟩
  · have HT := hid (show prec (.mk k ts) (.mk k' us) = false by simp [prec, *])
    have hk1 : (k == k') = false := by simpa using hkk
    have hk2 : (k != k') = true := by simpa using hkk
    clear hkk
    go_enter Try.func67, Try.ntmps67
    go_wp2_with fail
    go_ret
    exact ⟨ret_b HT.out.symm, HAL.out⟩

theorem l1Precise_any : ∀ t : Ty, L1pC t := Ty.ind l1Precise_of

end Go.Proofs.Ytoeenodhddechaa

/- The program's walk over two types whose results are types. -/
import Derived.Deep.RegionHeld3
import Derived.Test.YtjpmlmdbldcbjaaDoorQPkA
namespace Go.Proofs.YtjpmlmdbldcbjaaDoor
open Go.RowKit

mutual
def wkT (ap : Ty → Ty → Ty) : Ty → Ty → Ty
  | .mk k ts, .mk k' us => if k ≠ k' ∨ k = 1 then ap (.mk k ts) (.mk k' us) else .mk k (wkTL ap ts us)
def wkTL (ap : Ty → Ty → Ty) : List Ty → List Ty → List Ty
  | t :: ts, u :: us => wkT ap t u :: wkTL ap ts us
  | _, _ => []
end

theorem wkTL_zip (ap : Ty → Ty → Ty) : ∀ ts us : List Ty, wkTL ap ts us = List.zipWith (wkT ap) ts us
  | t :: ts, u :: us => by simp only [wkTL, List.zipWith_cons_cons, wkTL_zip ap ts us]
  | [], _ => by simp only [wkTL, List.zipWith_nil_left]
  | _ :: _, [] => by simp only [wkTL, List.zipWith_nil_right]

/-- The function may be called by its value. -/
def CallOkT (fa : FuncId) : Prop := ∀ (args : Array Value) (w : World), (callFunc fa args).run Tryd.prog w = .ok (.enter fa args) w

def ApT (fa : FuncId) (ap : Ty → Ty → Ty) : Prop := ∀ (t u : Ty) (v1 v2 : Value) (f1 f2 : List Nat) (w : World), t.At w v1 f1 → u.At w v2 f2 → wf t → wf u →
  Calls Tryd.prog fa #[v1, v2] w (MadeT w (ap t u))

def WtC (fa : FuncId) (ap : Ty → Ty → Ty) (t : Ty) : Prop := ∀ (u : Ty) (v1 v2 : Value) (f1 f2 : List Nat) (w : World), t.At w v1 f1 → u.At w v2 f2 → wf t → wf u →
  Calls Tryd.prog 84 #[v1, v2, .func (.func fa) #[] #[], .func (.func 86) #[] #[]] w (MadeT w (wkT ap t u))

/-- The result's own cell is written last. -/
theorem keepR {w1 : World} {R B : Nat} {t : Ty} {v x y : Value} {fp : List Nat} (hat : t.At w1 v fp) (hf : Fresh B w1 fp) (hR : R < B) :
    t.At ((w1.setCell ⟨R, 0, none⟩ x).setCell ⟨R, 1, none⟩ y) v fp ∧ Fresh B ((w1.setCell ⟨R, 0, none⟩ x).setCell ⟨R, 1, none⟩ y) fp := by
  have hab := ((Above.refl B w1).setCell (p := ⟨R, 0, none⟩) hR x).setCell (p := ⟨R, 1, none⟩) hR y
  exact ⟨hat.above hab hf.ge, hf.above hab (Nat.le_refl _)⟩

/-- The cells of two arguments' boxes and of the result. -/
theorem boxes3 {w wr : World} {x y x' y' x2 y2 : Value} {T T' T2 : TypeId} (h : Below (((w.alloc (Obj.cells #[x, y] T)).alloc (Obj.cells #[x', y'] T')).alloc (Obj.cells #[x2, y2] T2)).heap.size (((w.alloc (Obj.cells #[x, y] T)).alloc (Obj.cells #[x', y'] T')).alloc (Obj.cells #[x2, y2] T2)) wr) :
    wr.cell? ⟨w.heap.size, 0, none⟩ = some x ∧ wr.cell? ⟨w.heap.size, 1, none⟩ = some y ∧ wr.cell? ⟨w.heap.size + 1, 0, none⟩ = some x' ∧ wr.cell? ⟨w.heap.size + 1, 1, none⟩ = some y' ∧
      wr.cell? ⟨w.heap.size + 1 + 1, 0, none⟩ = some x2 ∧ wr.cell? ⟨w.heap.size + 1 + 1, 1, none⟩ = some y2 ∧ ∀ o, wr.frozen? ⟨w.heap.size + 1 + 1, o, none⟩ = false := by
  have hs : (w.alloc (Obj.cells #[x, y] T)).heap.size = w.heap.size + 1 := by simp
  have hs2 : ((w.alloc (Obj.cells #[x, y] T)).alloc (Obj.cells #[x', y'] T')).heap.size = w.heap.size + 1 + 1 := by simp
  have h2 : wr.heap[w.heap.size + 1 + 1]? = some (Obj.cells #[x2, y2] T2) := by
    rw [h.block (w.heap.size + 1 + 1) (by simp), ← hs2]
    exact alloc_new _ _
  have h1 : wr.heap[w.heap.size + 1]? = some (Obj.cells #[x', y'] T') := by
    rw [h.block (w.heap.size + 1) (by simp), Below.heap_alloc _ _ _ (by simp), ← hs]
    exact alloc_new _ _
  have h0 : wr.heap[w.heap.size]? = some (Obj.cells #[x, y] T) := by
    rw [h.block w.heap.size (by simp; omega), Below.heap_alloc _ _ _ (by simp; omega), Below.heap_alloc _ _ _ (by simp)]
    exact alloc_new _ _
  exact ⟨by rw [cell_of_block h0]; rfl, by rw [cell_of_block h0]; rfl, by rw [cell_of_block h1]; rfl, by rw [cell_of_block h1]; rfl, by rw [cell_of_block h2]; rfl, by rw [cell_of_block h2]; rfl, fun o => frozen_of_block h2⟩

theorem alloc3 {w w' : World} {o o' o2 : Obj} (h : Below (((w.alloc o).alloc o').alloc o2).heap.size (((w.alloc o).alloc o').alloc o2) w') : Below w.heap.size w w' := alloc1 (alloc1 (alloc1 h))

theorem Tryd.underTys2 : Tryd.prog.underlying 29 = some (.slice 31) := by kernel_rfl
theorem Tryd.infoTy2 : (Tryd.prog.info? 31).map (fun i => (i.zero, i.size, i.bytes)) = some (some (.agg #[.int .i64 0, .slice none 0 0]), 2, 32) := by kernel_rfl

theorem wf_small2 {k : Int} {ts : List Ty} (h : wf (.mk k ts)) : ts.length ≤ 2 := by
  have := (wf_mk h).1
  unfold kidsOf at this
  split at this
  · omega
  · split at this <;> omega

set_option maxHeartbeats 400000 in
theorem buildType_any (k : Int) (a : Option Addr) (n cap : Nat) (w : World) : Calls Tryd.prog 86 #[.int .i64 k, .slice a n cap] w fun e w' => e = .returned (.agg #[.int .i64 k, .slice a n cap]) ∧ Below w.heap.size w w' := by
  go_enter Tryd.func86, Tryd.ntmps86
  go_wp2_with fail
  exact bodyPost_ret (v := .agg #[.int .i64 k, .slice a n cap]) (by simp [results, Tryd.results86, go_sem]) rfl ⟨rfl, (Below.refl _ _).alloc (Nat.le_refl _) _⟩

set_option maxHeartbeats 800000 in
set_option maxRecDepth 100000 in
theorem walkT_apart (fa : FuncId) (ap : Ty → Ty → Ty) (hA : ApT fa ap) (hfa : CallOkT fa) (k : Int) (ts : List Ty) (k' : Int) (us : List Ty) (hk : k ≠ k' ∨ k = 1) (v1 v2 : Value) (f1 f2 : List Nat) (w : World) (h1 : Ty.At w (.mk k ts) v1 f1) (h2 : Ty.At w (.mk k' us) v2 f2) (hw1 : wf (.mk k ts)) (hw2 : wf (.mk k' us)) :
  Calls Tryd.prog 84 #[v1, v2, .func (.func fa) #[] #[], .func (.func 86) #[] #[]] w (MadeT w (wkT ap (.mk k ts) (.mk k' us))) := by
  have HA := hid hA
  have HW1 := hid hw1
  have HW2 := hid hw2
  obtain ⟨s1, rfl, hs1⟩ := Ty.at_mk.1 h1
  obtain ⟨s2, rfl, hs2⟩ := Ty.at_mk.1 h2
  obtain ⟨a, cap, rfl⟩ := hs1.shape
  obtain ⟨a2, cap2, rfl⟩ := hs2.shape
  have HT := hid (show wkT ap (.mk k ts) (.mk k' us) = ap (.mk k ts) (.mk k' us) by simp only [wkT]; rw [if_pos hk])
  have hal : Below w.heap.size w (((w.alloc (Obj.cells #[.int .i64 k, .slice a ts.length cap] 31)).alloc (Obj.cells #[.int .i64 k', .slice a2 us.length cap2] 31)).alloc (Obj.cells #[.int .i64 0, .slice none 0 0] 31)) := (((Below.refl _ _).alloc (Nat.le_refl _) _).alloc (by simp) _).alloc (by simp; omega) _
  have HAL := hid hal
  have HF := hid hfa
  clear hal hA hfa hw1 hw2
  by_cases hkk : k = k'
  · subst hkk
    obtain rfl : k = 1 := by rcases hk with h | h <;> simp_all
    clear hk
    have hfa := HF.out
    unfold CallOkT at hfa
    go_enter Tryd.func84, Tryd.ntmps84
    go_wp2_with fail
    refine (HA.out _ _ _ _ _ _ _ (h1.below HAL.out) (h2.below HAL.out) HW1.out HW2.out).mono ?_
    rintro e w1 ⟨v, f, rfl, hat, hf, hb⟩
    obtain ⟨kr, nr, ar, capr, rfl⟩ := hat.agg
    obtain ⟨x0, x1, x2, x3, r0, r1, rz⟩ := boxes3 hb
    have hM : w.heap.size + 1 + 1 < w1.heap.size := by have := hb.size; simp at this; omega
    have hbb := ((alloc3 hb).setCell (p := ⟨w.heap.size + 1 + 1, 0, none⟩) (by simp; omega) (.int .i64 kr)).setCell (p := ⟨w.heap.size + 1 + 1, 1, none⟩) (by simp; omega) (.slice ar nr capr)
    have hkr := keepR (R := w.heap.size + 1 + 1) (x := .int .i64 kr) (y := .slice ar nr capr) hat hf (by simp)
    go_wp2_with fail
    exact bodyPost_ret (v := .agg #[.int .i64 kr, .slice ar nr capr]) (by simp [results, Tryd.results84, go_sem, r0, r1]) rfl ⟨_, f, rfl, by rw [HT.out]; exact hkr.1, hkr.2.mono (by simp; omega), hbb⟩
  · have hk1 : (k == k') = false := by simpa using hkk
    have hk2 : (k != k') = true := by simpa using hkk
    clear hkk hk
    have hfa := HF.out
    unfold CallOkT at hfa
    go_enter Tryd.func84, Tryd.ntmps84
    go_wp2_with fail
    refine (HA.out _ _ _ _ _ _ _ (h1.below HAL.out) (h2.below HAL.out) HW1.out HW2.out).mono ?_
    rintro e w1 ⟨v, f, rfl, hat, hf, hb⟩
    obtain ⟨kr, nr, ar, capr, rfl⟩ := hat.agg
    obtain ⟨x0, x1, x2, x3, r0, r1, rz⟩ := boxes3 hb
    have hM : w.heap.size + 1 + 1 < w1.heap.size := by have := hb.size; simp at this; omega
    have hbb := ((alloc3 hb).setCell (p := ⟨w.heap.size + 1 + 1, 0, none⟩) (by simp; omega) (.int .i64 kr)).setCell (p := ⟨w.heap.size + 1 + 1, 1, none⟩) (by simp; omega) (.slice ar nr capr)
    have hkr := keepR (R := w.heap.size + 1 + 1) (x := .int .i64 kr) (y := .slice ar nr capr) hat hf (by simp)
    go_wp2_with fail
    exact bodyPost_ret (v := .agg #[.int .i64 kr, .slice ar nr capr]) (by simp [results, Tryd.results84, go_sem, r0, r1]) rfl ⟨_, f, rfl, by rw [HT.out]; exact hkr.1, hkr.2.mono (by simp; omega), hbb⟩

theorem zipT_take {ap : Ty → Ty → Ty} {ts us : List Ty} {j : Nat} (h : j < ts.length) (h' : j < us.length) : (wkTL ap ts us).take (j + 1) = (wkTL ap ts us).take j ++ [wkT ap ts[j] us[j]] := by
  rw [wkTL_zip, List.take_succ_eq_append_getElem (by simp; omega)]
  simp

set_option maxHeartbeats 1600000 in
set_option maxRecDepth 100000 in
theorem walkT_same (fa : FuncId) (ap : Ty → Ty → Ty) (k : Int) (ts us : List Ty) (hk : k ≠ 1) (hlen : ts.length = us.length) (hmax : ts.length ≤ 1048576) (ih : ∀ t ∈ ts, WtC fa ap t) (hw1 : ∀ t ∈ ts, wf t) (hw2 : ∀ t ∈ us, wf t)
    (v1 v2 : Value) (f1 f2 : List Nat) (w : World) (h1 : Ty.At w (.mk k ts) v1 f1) (h2 : Ty.At w (.mk k us) v2 f2) :
  Calls Tryd.prog 84 #[v1, v2, .func (.func fa) #[] #[], .func (.func 86) #[] #[]] w (MadeT w (wkT ap (.mk k ts) (.mk k us))) := by
  have HIH := hid ih
  have HW1 := hid hw1
  have HW2 := hid hw2
  clear ih hw1 hw2
  obtain ⟨s1, rfl, hs1⟩ := Ty.at_mk.1 h1
  obtain ⟨s2, rfl, hs2⟩ := Ty.at_mk.1 h2
  obtain ⟨a, cap, rfl, hc, hm, hget⟩ := hs1.openA
  have HG := hid hget
  obtain ⟨a2, cap2, rfl, hc2, hm2, hget2⟩ := hs2.openA
  have HG2 := hid hget2
  clear hget hget2 hs1 hs2 h1 h2
  have HT := hid (show wkT ap (.mk k ts) (.mk k us) = .mk k (wkTL ap ts us) by simp only [wkT]; rw [if_neg (by simp [hk])])
  have HZL := hid (show (wkTL ap ts us).length = ts.length by rw [wkTL_zip, List.length_zipWith]; omega)
  have hal : Below w.heap.size w (((w.alloc (Obj.cells #[.int .i64 k, .slice a ts.length cap] 31)).alloc (Obj.cells #[.int .i64 k, .slice a2 us.length cap2] 31)).alloc (Obj.cells #[.int .i64 0, .slice none 0 0] 31)) := (((Below.refl _ _).alloc (Nat.le_refl _) _).alloc (by simp) _).alloc (by simp; omega) _
  have HAL := hid hal
  have hk1 : (k == 1) = false := by simpa using hk
  have hle : ts.length ≤ us.length := by omega
  have HLEN := hid hlen
  clear hal hk hlen
  by_cases h0 : ts.length = 0
  · have ht : ts = [] := List.length_eq_zero_iff.1 h0
    subst ht
    go_enter Tryd.func84, Tryd.ntmps84
    go_wp2_with fail
    go_loop [35] (fun i => i = .int .i64 0) (fun _ => 0)
    case atStart => rfl
    case round =>
      obtain rfl := hrel
      go_wp2_with fail
      refine (buildType_any k none 0 0 _).mono ?_
      rintro e w1 ⟨rfl, hb⟩
      obtain ⟨x0, x1, x2, x3, r0, r1, rz⟩ := boxes3 hb
      have hM : w.heap.size + 1 + 1 < w1.heap.size := by have := hb.size; simp at this; omega
      have hbb := ((alloc3 hb).setCell (p := ⟨w.heap.size + 1 + 1, 0, none⟩) (by simp; omega) (.int .i64 k)).setCell (p := ⟨w.heap.size + 1 + 1, 1, none⟩) (by simp; omega) (.slice none 0 0)
      go_wp2_with fail
      exact bodyPost_ret (v := .agg #[.int .i64 k, .slice none 0 0]) (by simp [results, Tryd.results84, go_sem, r0, r1]) rfl ⟨_, [], rfl, by rw [HT.out]; exact Ty.at_mk.2 ⟨_, rfl, .inl ⟨by simp only [wkTL], rfl, none, 0, rfl⟩⟩, Fresh.nil _ _, hbb⟩
  · have hpos : 0 < ts.length := by omega
    have hpos' : (0 : Int) < (ts.length : Int) := by omega
    clear h0
    obtain ⟨Z, hZ, hmk⟩ : ∃ Z : Array Value, Z.size = ts.length * 2 ∧ ∀ w : World, (Instr.makeSlice 29 (.int .i64 (ts.length : Int)) (.int .i64 (ts.length : Int))).run Tryd.prog w = .ok (.slice (some ⟨w.heap.size, 0, none⟩) ts.length ts.length) (w.alloc (.cells Z 31)) := by
      obtain ⟨i0, hi, hz0, hz1, hz2⟩ := info_parts (P := Tryd.prog) (e := 31) Tryd.infoTy2
      have r := fun w : World => run_make w _ _ i0 _ Tryd.underTys2 hi hz0 .i64 .i64 (ts.length : Int) (ts.length : Int) (by omega) (by omega) (by rw [hz2]; omega) (by omega)
      simp only [Int.toNat_natCast, hz1] at r
      exact ⟨_, size_madeCells _ _, r⟩
    have HZ := hid hZ
    clear hZ
    go_enter Tryd.func84, Tryd.ntmps84
    go_wp2_with fail
    go_loopw [35] (fun i wr => ∃ (j : Nat) (f : List Nat), j ≤ ts.length ∧ i = .int .i64 j ∧ Built (w.heap.size + 1 + 1 + 1) 31 ts.length ((wkTL ap ts us).take j) f wr ∧ Below (((w.alloc (Obj.cells #[.int .i64 k, .slice a ts.length cap] 31)).alloc (Obj.cells #[.int .i64 k, .slice a2 us.length cap2] 31)).alloc (Obj.cells #[.int .i64 0, .slice none 0 0] 31)).heap.size (((w.alloc (Obj.cells #[.int .i64 k, .slice a ts.length cap] 31)).alloc (Obj.cells #[.int .i64 k, .slice a2 us.length cap2] 31)).alloc (Obj.cells #[.int .i64 0, .slice none 0 0] 31)) wr) (fun i _ => ts.length - (intOf i).toNat)
    case atStart =>
      have hs : (((w.alloc (Obj.cells #[.int .i64 k, .slice a ts.length cap] 31)).alloc (Obj.cells #[.int .i64 k, .slice a2 us.length cap2] 31)).alloc (Obj.cells #[.int .i64 0, .slice none 0 0] 31)).heap.size = w.heap.size + 1 + 1 + 1 := by simp
      exact ⟨0, [], Nat.zero_le _, rfl, Built.zero (C := Z) (by rw [← hs]; exact alloc_new _ _) HZ.out, (Below.refl _ _).alloc (Nat.le_refl _) _⟩
    case round =>
      obtain ⟨j, f, hj, rfl, hP, hb⟩ := hrel
      obtain ⟨x0, x1, x2, x3, r0, r1, rz⟩ := boxes3 hb
      have hbw := alloc3 hb
      by_cases hlk : j < ts.length
      · have hlk2 : j < us.length := by omega
        obtain ⟨b, o, k1, n1, a1, cap1, g1, rfl, hblt, c0, c1, hat, hf⟩ := HG.out j hlk
        obtain ⟨b2, o2, k3, n3, a3, cap3, g2, rfl, hblt2, e0, e1, hat2, hf2⟩ := HG2.out j hlk2
        have d0 := (hbw.cell (p := ⟨b, o + j * 2, none⟩) hblt).trans c0
        have d1 := (hbw.cell (p := ⟨b, o + j * 2 + 1, none⟩) hblt).trans c1
        have d2 := (hbw.cell (p := ⟨b2, o2 + j * 2, none⟩) hblt2).trans e0
        have d3 := (hbw.cell (p := ⟨b2, o2 + j * 2 + 1, none⟩) hblt2).trans e1
        clear c0 c1 e0 e1
        have HWa := hid (HW1.out _ (List.getElem_mem hlk))
        have HWb := hid (HW2.out _ (List.getElem_mem hlk2))
        have HS := hid (zipT_take (ap := ap) hlk hlk2)
        have hB2 : w.heap.size + 1 + 1 + 1 ≤ wr.heap.size := by have := hb.size; simp at this; omega
        have l0 : w.heap.size < w.heap.size + 1 + 1 + 1 := by omega
        have l1 : w.heap.size + 1 < w.heap.size + 1 + 1 + 1 := by omega
        have l2 : b < w.heap.size + 1 + 1 + 1 := by omega
        have l3 : b2 < w.heap.size + 1 + 1 + 1 := by omega
        go_wp2_with fail
        go_region_held3 (fun w' => Below (w.heap.size + 1 + 1 + 1) wr w' ∧ w'.cell? ⟨w.heap.size, 0, none⟩ = some (.int .i64 k) ∧ w'.cell? ⟨w.heap.size, 1, none⟩ = some (.slice (some ⟨b, o, none⟩) ts.length cap) ∧ w'.cell? ⟨w.heap.size + 1, 0, none⟩ = some (.int .i64 k) ∧ w'.cell? ⟨w.heap.size + 1, 1, none⟩ = some (.slice (some ⟨b2, o2, none⟩) us.length cap2) ∧
            w'.cell? ⟨b, o + j * 2, none⟩ = some (.int .i64 k1) ∧ w'.cell? ⟨b, o + j * 2 + 1, none⟩ = some (.slice a1 n1 cap1) ∧ w'.cell? ⟨b2, o2 + j * 2, none⟩ = some (.int .i64 k3) ∧ w'.cell? ⟨b2, o2 + j * 2 + 1, none⟩ = some (.slice a3 n3 cap3))
          ((refine (fun hB => ⟨hB, cell_keepB x0 hB l0, cell_keepB x1 hB l0, cell_keepB x2 hB l1, cell_keepB x3 hB l1, cell_keepB d0 hB l2, cell_keepB d1 hB l2, cell_keepB d2 hB l3, cell_keepB d3 hB l3⟩ : Below (w.heap.size + 1 + 1 + 1) wr _ → _) ?_; (first | exact (below_drew wr).mono hB2 | exact hbd.mono hB2 | exact ((hbd.mono hB2).setCell (p := ⟨w.heap.size + 1 + 1 + 1, j * 2, none⟩) (Nat.le_refl _) _).setCell (p := ⟨w.heap.size + 1 + 1 + 1, j * 2 + 1, none⟩) (Nat.le_refl _) _)))
          (first
            | (go_at_call 84; refine (HIH.out _ (List.getElem_mem hlk) _ _ _ _ _ _ (hat.below hbw.drew) (hat2.below hbw.drew) HWa.out HWb.out).mono ?_; rintro e w1 ⟨vv, ff, rfl, hatr, hfr, hb1⟩; obtain ⟨kr, nr, ar, capr, rfl⟩ := hatr.agg; have hbd := below_trans (below_drew wr) hb1; obtain ⟨z0, z1, hz0, hz1, hzf⟩ := hP.cells hlk hbd))
        have hP1 := hP.step (k := j) (by rw [List.length_take, HZL.out]; omega) hlk hbd hatr hfr
        rw [← HS.out] at hP1
        have hbb := hb.trans (hbd.mono hb.size)
        clear hb hb1 hat hat2 d0 d1 d2 d3 hbw x0 x1 x2 x3 r0 r1 rz hP hz0 hz1 hzf
        go_wp2_with fail
        exact ⟨⟨j + 1, _, by omega, by go_num, hP1, (hbb.setCell (p := ⟨w.heap.size + 1 + 1 + 1, j * 2, none⟩) (by simp) _).setCell (p := ⟨w.heap.size + 1 + 1 + 1, j * 2 + 1, none⟩) (by simp) _⟩, by simp [intOf]; omega⟩
      · obtain ⟨fp', hs', hf'⟩ := hP.done (by rw [List.length_take, HZL.out]; omega) (by unfold maxLen; omega)
        rw [List.take_of_length_le (by rw [HZL.out]; omega)] at hs'
        have HS := hid hs'
        clear hs' hP
        go_wp2_with fail
        refine (buildType_any k _ _ _ _).mono ?_
        rintro e w1 ⟨rfl, hb1⟩
        obtain ⟨x0, x1, x2, x3, r0, r1, rz⟩ := boxes3 (hb.trans (hb1.mono hb.size))
        have hM : w.heap.size + 1 + 1 < w1.heap.size := by have := hb.size; have := hb1.size; simp at *; omega
        have hbb := ((below_trans hbw hb1).setCell (p := ⟨w.heap.size + 1 + 1, 0, none⟩) (by simp; omega) (.int .i64 k)).setCell (p := ⟨w.heap.size + 1 + 1, 1, none⟩) (by simp; omega) (.slice (some ⟨w.heap.size + 1 + 1 + 1, 0, none⟩) ts.length ts.length)
        have hat1 : Ty.At w1 (.mk k (wkTL ap ts us)) (.agg #[.int .i64 k, .slice (some ⟨w.heap.size + 1 + 1 + 1, 0, none⟩) ts.length ts.length]) fp' := Ty.at_mk.2 ⟨_, rfl, HS.out.below hb1⟩
        have hkr := keepR (R := w.heap.size + 1 + 1) (x := .int .i64 k) (y := .slice (some ⟨w.heap.size + 1 + 1 + 1, 0, none⟩) ts.length ts.length) hat1 (hf'.below hb1) (by omega)
        go_wp2_with fail
        exact bodyPost_ret (v := .agg #[.int .i64 k, .slice (some ⟨w.heap.size + 1 + 1 + 1, 0, none⟩) ts.length ts.length]) (by simp [results, Tryd.results84, go_sem, r0, r1]) rfl ⟨_, fp', rfl, by rw [HT.out]; exact hkr.1, hkr.2.mono (by omega), hbb⟩

theorem walkT_any (fa : FuncId) (ap : Ty → Ty → Ty) (hA : ApT fa ap) (hfa : CallOkT fa) : ∀ t : Ty, WtC fa ap t := Ty.ind fun k ts ih => by
  intro u v1 v2 f1 f2 w h1 h2 hw1 hw2
  obtain ⟨k', us, rfl⟩ := u.shape
  by_cases hk : k ≠ k' ∨ k = 1
  · exact walkT_apart fa ap hA hfa k ts k' us hk v1 v2 f1 f2 w h1 h2 hw1 hw2
  · have hk1 : k ≠ 1 := fun h => hk (Or.inr h)
    have hk2 : k = k' := by
      by_cases h : k = k'
      · exact h
      · exact absurd (Or.inl h) hk
    subst hk2
    exact walkT_same fa ap k ts us hk1 (wf_len hw1 hw2) (Nat.le_trans (wf_small2 hw1) (by omega)) ih (wf_mk hw1).2 (wf_mk hw2).2 v1 v2 f1 f2 w h1 h2

end Go.Proofs.YtjpmlmdbldcbjaaDoor

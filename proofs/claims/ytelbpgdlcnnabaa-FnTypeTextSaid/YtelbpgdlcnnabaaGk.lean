/- The ground type of a kind: the program's groundOfKind. -/
import Derived.Test.YtelbpgdlcnnabaaGrd
import Derived.Test.YtelbpgdlcnnabaaPkA
import Derived.Test.YtelbpgdlcnnabaaWalkT
namespace Go.Proofs.Ytelbpgdlcnnabaa
open Go.RowKit

/-- The ground type of a kind. -/
def gk (k : Int) : Ty := .mk k (if k = 4 ∨ k = 5 then [.mk 1 [], .mk 1 []] else [])

theorem wf_kids {k : Int} {ts : List Ty} (h : wf (.mk k ts)) : ((k = 1 ∨ k = 2 ∨ k = 3) ∧ ts = []) ∨ ((k = 4 ∨ k = 5) ∧ ∃ a b, ts = [a, b] ∧ wf a ∧ wf b) := by
  obtain ⟨hk, hw⟩ := wf_mk h
  unfold kidsOf at hk
  by_cases h1 : k = 1 ∨ k = 2 ∨ k = 3
  · rw [if_pos h1] at hk
    exact .inl ⟨h1, List.length_eq_zero_iff.1 (by omega)⟩
  rw [if_neg h1] at hk
  by_cases h2 : k = 4 ∨ k = 5
  · rw [if_pos h2] at hk
    match ts, hk, hw with
    | [a, b], _, hw => exact .inr ⟨h2, a, b, rfl, hw a (by simp), hw b (by simp)⟩
    | [], hk, _ => simp at hk
    | [_], hk, _ => simp at hk
    | _ :: _ :: _ :: _, hk, _ => simp at hk; omega
  · rw [if_neg h2] at hk; omega

theorem wf_unk : wf (.mk 1 []) := ⟨1, by decide⟩

theorem wf_gk {k : Int} (h : 1 ≤ k ∧ k ≤ 5) : wf (gk k) := by
  have : k = 1 ∨ k = 2 ∨ k = 3 ∨ k = 4 ∨ k = 5 := by omega
  rcases this with rfl | rfl | rfl | rfl | rfl <;> exact ⟨2, by decide⟩

theorem grd_gk {t : Ty} (h : wf t) : grd t = gk (kindT t) := by
  obtain ⟨k, ts, rfl⟩ := t.shape
  rcases wf_kids h with ⟨hk, rfl⟩ | ⟨hk, a, b, rfl, _, _⟩
  · have : ¬ (k = 4 ∨ k = 5) := by omega
    simp [grd, gk, grdL, kindT, this]
  · simp [grd, gk, grdL, kindT, hk]

theorem wf_kind {t : Ty} (h : wf t) : 1 ≤ kindT t ∧ kindT t ≤ 5 := by
  obtain ⟨k, ts, rfl⟩ := t.shape
  rcases wf_kids h with ⟨hk, rfl⟩ | ⟨hk, a, b, rfl, _, _⟩ <;> (simp only [kindT]; omega)

/-- A new block of zero types of which the first j kinds have been set. -/
def Kinds (M n j : Nat) (wr : World) : Prop :=
  ∃ C : Array Value, wr.heap[M]? = some (.cells C 25 (0, 0)) ∧ C.size = n * 2 ∧ ∀ i, i < n → C[i * 2]? = some (.int .i64 (if i < j then 1 else 0)) ∧ C[i * 2 + 1]? = some (.slice none 0 0)

theorem made_pair (x y : Value) (n i : Nat) (h : i < n) : (madeCells #[x, y] (n * 2))[i * 2]? = some x ∧ (madeCells #[x, y] (n * 2))[i * 2 + 1]? = some y := by
  have h1 : i * 2 < n * 2 := by omega
  have h2 : i * 2 + 1 < n * 2 := by omega
  constructor
  · simp [madeCells, h1]
  · have : (i * 2 + 1) % 2 = 1 := by omega
    simp [madeCells, h2, this]

theorem Kinds.set {M n j : Nat} {w : World} (h : Kinds M n j w) (hj : j < n) : Kinds M n (j + 1) (w.setCell ⟨M, j * 2, none⟩ (.int .i64 1)) := by
  obtain ⟨C, hB, hC, hc⟩ := h
  refine ⟨_, heap_setCell_at hB _, by simp [hC], fun i hi => ⟨?_, ?_⟩⟩
  · by_cases hij : i = j
    · subst hij
      rw [if_pos (by omega)]
      simp [Array.getElem?_setIfInBounds, hC]
      omega
    · rw [Array.getElem?_setIfInBounds_ne (by omega), (hc i hi).1]
      by_cases h : i < j
      · rw [if_pos h, if_pos (by omega)]
      · rw [if_neg h, if_neg (by omega)]
  · rw [Array.getElem?_setIfInBounds_ne (by omega)]
    exact (hc i hi).2

theorem Kinds.done {M : Nat} {ts : List Ty} {w : World} (h : Kinds M ts.length ts.length w) (hp : 0 < ts.length) (hm : ts.length ≤ maxLen) : SlAt w (grdL ts) (.slice (some ⟨M, 0, none⟩) ts.length ts.length) [M] ∧ Fresh M w [M] := by
  obtain ⟨C, hB, hC, hc⟩ := h
  have hl : (grdL ts).length = ts.length := by simp [grdL]
  have hat : Ty.AtL w (grdL ts) M 0 (ts.map fun _ => ([] : List Nat)).flatten := idx_atL (by simp [grdL]) (fun i h h' => by
    have hi : i < ts.length := by rw [hl] at h; exact h
    refine ⟨1, .slice none 0 0, ?_, ?_, ?_, ?_⟩
    · rw [Nat.zero_add, cell_of_block hB, (hc i hi).1, if_pos hi]
    · rw [Nat.zero_add, cell_of_block hB, (hc i hi).2]
    · simp only [grdL, List.getElem_map, kidsT]
      exact .inl ⟨rfl, rfl, none, 0, rfl⟩
    · simp [grdL, kidsT])
  have hf : (ts.map fun _ => ([] : List Nat)).flatten = [] := by simp
  rw [hf] at hat
  exact ⟨.inr ⟨M, 0, _, [], by rw [hl], by rw [hl]; exact hp, by rw [hl]; exact Nat.le_refl _, by rw [hl]; exact hm, hat, rfl⟩, by simp, fun b hb => by
    obtain rfl : b = M := by simpa using hb
    exact ⟨Nat.le_refl _, lt_of_block hB, fun o => frozen_of_block hB⟩⟩

set_option maxHeartbeats 1600000 in
set_option maxRecDepth 100000 in
theorem groundOfKind_any (k : Int) (hk : 1 ≤ k ∧ k ≤ 5) (w : World) : Calls Try.prog 74 #[.int .i64 k] w (MadeT w (gk k)) := by
  have hc : (k = 1 ∨ k = 2 ∨ k = 3) ∨ (k = 4 ∨ k = 5) := by omega
  have hB : ∀ o : Obj, Below w.heap.size w (w.alloc o) := fun o => (Below.refl _ _).alloc (Nat.le_refl _) _
  rcases hc with hc | hc
  · have HT := hid (show gk k = .mk k [] by unfold gk; rw [if_neg (by omega)])
    have h0 : kidsOf k = 0 := by unfold kidsOf; rw [if_pos hc]
    have HK := hid h0
    rw [HT.out]
    clear h0 hc hk HT
    go_enter Try.func74, Try.ntmps74
    go_wp2_with fail
    refine (typeOperands_any _ _).mono ?_
    rintro e w1 ⟨rfl, rfl⟩
    rw [HK.out]
    go_wp2_with fail
    go_loop [14] (fun i => i = .int .i64 0) (fun _ => 0)
    case atStart => rfl
    case round =>
      obtain rfl := hrel
      go_wp2_with fail
      exact bodyPost_ret (v := .agg #[.int .i64 k, .slice none 0 0]) (by simp [results, Try.results74, go_sem]) rfl ⟨_, [], rfl, Ty.at_mk.2 ⟨_, rfl, .inl ⟨rfl, rfl, none, 0, rfl⟩⟩, Fresh.nil _ _, hB _⟩
  · have HT := hid (show gk k = .mk k (grdL [.mk 1 [], .mk 1 []]) by unfold gk; rw [if_pos hc]; rfl)
    have h0 : kidsOf k = 2 := by unfold kidsOf; rw [if_neg (by omega), if_pos hc]
    have HK := hid h0
    rw [HT.out]
    clear h0 hc hk HT
    obtain ⟨Z, hZ, hmk⟩ : ∃ Z : Array Value, (Z.size = 2 * 2 ∧ ∀ i, i < 2 → Z[i * 2]? = some (.int .i64 0) ∧ Z[i * 2 + 1]? = some (.slice none 0 0)) ∧ ∀ w : World, (Instr.makeSlice 23 (.int .i64 2) (.int .i64 2)).run Try.prog w = .ok (.slice (some ⟨w.heap.size, 0, none⟩) 2 2) (w.alloc (.cells Z 25)) := by
      obtain ⟨i0, hi, hz0, hz1, hz2⟩ := info_parts (P := Try.prog) (e := 25) Try.infoTy2
      have r := fun w : World => run_make w _ _ i0 _ Try.underTys2 hi hz0 .i64 .i64 2 2 (by omega) (by omega) (by rw [hz2]; omega) (by omega)
      simp only [hz1] at r
      exact ⟨_, ⟨size_madeCells _ _, fun i hi => made_pair _ _ _ _ hi⟩, r⟩
    have HZ := hid hZ
    clear hZ
    go_enter Try.func74, Try.ntmps74
    go_wp2_with fail
    refine (typeOperands_any _ _).mono ?_
    rintro e w1 ⟨rfl, rfl⟩
    rw [HK.out]
    have hs1 : (w.alloc (Obj.cells #[.int .i64 0, .slice none 0 0] 25)).heap.size = w.heap.size + 1 := by simp
    generalize hW : w.alloc (Obj.cells #[.int .i64 0, .slice none 0 0] 25) = W at *
    have hWb : Below w.heap.size w W := by rw [← hW]; exact hB _
    have hW0 : W.heap[w.heap.size]? = some (Obj.cells #[.int .i64 0, .slice none 0 0] 25) := by rw [← hW]; exact alloc_new _ _
    have HW0 := hid hW0
    have HS1 := hid hs1
    clear hW hB hW0 hs1
    go_wp2_with fail
    go_loopw [14] (fun i wr => ∃ j : Nat, j ≤ 2 ∧ i = .int .i64 j ∧ Kinds W.heap.size 2 j wr ∧ Below W.heap.size W wr) (fun i _ => 2 - (intOf i).toNat)
    case atStart => exact ⟨0, by omega, rfl, ⟨Z, alloc_new _ _, HZ.out.1, fun i hi => by simpa using HZ.out.2 i hi⟩, (Below.refl _ _).alloc (Nat.le_refl _) _⟩
    case round =>
      obtain ⟨j, hj, rfl, hK, hb⟩ := hrel
      by_cases hlk : j < 2
      · obtain ⟨C, hCB, hCs, hCc⟩ := hK
        have q0 : wr.cell? ⟨W.heap.size, j * 2, none⟩ = some (.int .i64 0) := by rw [cell_of_block hCB, (hCc j hlk).1, if_neg (by omega)]
        have qz := frozen_of_block (o := j * 2) hCB
        have hK1 := Kinds.set (w := wr) ⟨C, hCB, hCs, hCc⟩ hlk
        have HCC := hid hCc
        clear hCc
        go_wp2_with fail
        exact ⟨⟨j + 1, by omega, by go_num, hK1, hb.setCell (p := ⟨W.heap.size, j * 2, none⟩) (Nat.le_refl _) _⟩, by simp [intOf]; omega⟩
      · obtain rfl : j = 2 := by omega
        obtain ⟨hs', hf'⟩ := Kinds.done (ts := [.mk 1 [], .mk 1 []]) hK (by simp) (by simp [maxLen])
        have hM0 := (hb.block w.heap.size (by have := HS1.out; omega)).trans HW0.out
        have hM : w.heap.size < wr.heap.size := lt_of_block hM0
        have r0 : wr.cell? ⟨w.heap.size, 0, none⟩ = some (.int .i64 0) := by rw [cell_of_block hM0]; rfl
        have r1 : wr.cell? ⟨w.heap.size, 1, none⟩ = some (.slice none 0 0) := by rw [cell_of_block hM0]; rfl
        have rz : ∀ o, wr.frozen? ⟨w.heap.size, o, none⟩ = false := fun o => frozen_of_block hM0
        have hbb := ((hWb.trans (hb.mono hWb.size)).setCell (p := ⟨w.heap.size, 0, none⟩) (Nat.le_refl _) (.int .i64 k)).setCell (p := ⟨w.heap.size, 1, none⟩) (Nat.le_refl _) (.slice (some ⟨W.heap.size, 0, none⟩) 2 2)
        have hat1 : Ty.At wr (.mk k (grdL [.mk 1 [], .mk 1 []])) (.agg #[.int .i64 k, .slice (some ⟨W.heap.size, 0, none⟩) 2 2]) [W.heap.size] := Ty.at_mk.2 ⟨_, rfl, hs'⟩
        have hkr := keepR (R := w.heap.size) (x := .int .i64 k) (y := .slice (some ⟨W.heap.size, 0, none⟩) 2 2) hat1 hf' (by have := HS1.out; omega)
        have HFIN := hid (⟨hkr.1, hkr.2.mono (by have := HS1.out; omega), hbb⟩ : _ ∧ Fresh w.heap.size _ _ ∧ _)
        clear hK hs' hkr hat1 hbb hM0
        go_wp2_with fail
        exact bodyPost_ret (v := .agg #[.int .i64 k, .slice (some ⟨W.heap.size, 0, none⟩) 2 2]) (by simp [results, Try.results74, go_sem, r0, r1]) rfl ⟨_, _, rfl, HFIN.out.1, HFIN.out.2.1, HFIN.out.2.2⟩
end Go.Proofs.Ytelbpgdlcnnabaa

/- The specification's ground types. The program's walk over two types whose results are types. The ground type of a kind: the program's groundOfKind. The text of a type: the specification's l1Text. A region that draws its order, walked under a condition that holds until one of its operations has come up. Steps of a region that draws its order, the operation handed over off the region's list. Draws: a source of numbers in a block of its own; worlds in which only that block and new ones are written. Well-formed types of at most a depth, beside chapter 6. Consistency and precision as plain functions, and the specification's functions. A world in which one block, and new memory, may have changed. Maps whose keys are pairs of pointers to coercions. Maps whose keys are pairs of pointers to types. The specification's meets and joins. -/
import Derived.Test.YtolhfcpmhhhjpaaSPkA
import Derived.Deep.RegionHeld3
import Derived.StillTailTactics
import Derived.LaidEqlPtr
import Derived.ChangeMaps4
import Derived.Maps.Own
namespace Go.Proofs.Ytolhfcpmhhhjpaa
open Go.RowKit

def grdL (ts : List Ty) : List Ty := ts.map fun _ => .mk 1 []
def grd : Ty → Ty
  | .mk k ts => .mk k (grdL ts)
def kindT : Ty → Int
  | .mk k _ => k
theorem grdL_take {ts : List Ty} {j : Nat} (h : j < ts.length) : (grdL ts).take (j + 1) = (grdL ts).take j ++ [.mk 1 []] := by
  rw [take_succ (by simpa [grdL] using h)]
  simp [grdL]

set_option maxRecDepth 100000 in
set_option maxHeartbeats 1600000 in
theorem l1Ground_any (t : Ty) (v : Value) (fp : List Nat) (w : World) (hat : t.At w v fp) (hn : t.cnt ≤ 1048576) : Calls Try.prog 83 #[v] w (MadeT w (grd t)) := by
  obtain ⟨k, ts, rfl⟩ := t.shape
  obtain ⟨s, rfl, hs⟩ := Ty.at_mk.1 hat
  obtain ⟨a, cap, rfl, hc, hm, hget⟩ := hs.openA
  have HN := hid (show ts.length + cntL ts ≤ 1048576 by simpa only [Ty.cnt] using hn)
  obtain ⟨i0, hi0, hz0, hz1, hz2⟩ := info_parts (P := Try.prog) (e := 25) Try.infoElem
  clear hget hat hs hn
  go_enter Try.func83, Try.ntmps83
  go_wp2_with fail
  go_loopw [4] (fun i wr => ∃ (j : Nat) (v : Value) (f : List Nat), j ≤ ts.length ∧ i = .int .i64 j ∧ Below (w.heap.size + 1 + 1) (((w.alloc (Obj.cells #[.int .i64 k, .slice a ts.length cap] 25)).alloc (Obj.cells #[.int .i64 0, .slice none 0 0] 25)).alloc (Obj.cells #[.int .i64 k, .slice none 0 0] 25)) wr ∧ wr.heap[w.heap.size + 1 + 1]? = some (.cells #[.int .i64 k, v] 25 (0, 0)) ∧ GrowT (w.heap.size + 1 + 1 + 1) ((grdL ts).take j) v f wr)
    (fun i _ => ts.length - (intOf i).toNat)
  case atStart =>
    have hs : ((w.alloc (Obj.cells #[.int .i64 k, .slice a ts.length cap] 25)).alloc (Obj.cells #[.int .i64 0, .slice none 0 0] 25)).heap.size = w.heap.size + 1 + 1 := by simp
    exact ⟨0, .slice none 0 0, [], Nat.zero_le _, rfl, Below.refl _ _, by rw [← hs]; exact alloc_new _ _, GrowT.zero _ _⟩
  case round =>
    obtain ⟨j, v, f, hj, rfl, hb, hO, hG⟩ := hrel
    have hbw : Below w.heap.size w wr := Below.trans ((((Below.refl _ _).alloc (Nat.le_refl _) _).alloc (by simp) _).alloc (by simp; omega) _) (hb.mono (by omega))
    obtain ⟨x0, x1, r0, r1, rz⟩ := boxes_out hb
    have y0 : wr.cell? ⟨w.heap.size + 1 + 1, 0, none⟩ = some (.int .i64 k) := by rw [cell_of_block hO]; rfl
    have y1 : wr.cell? ⟨w.heap.size + 1 + 1, 1, none⟩ = some v := by rw [cell_of_block hO]; rfl
    have hglen : (grdL ts).length = ts.length := by simp [grdL]
    have HGL := hid hglen
    clear hglen
    by_cases hlk : j < ts.length
    · have hM : w.heap.size + 1 + 1 < wr.heap.size := lt_of_block hO
      have hlen : ((grdL ts).take j).length = j := by rw [List.length_take, HGL.out]; omega
      have HLEN := hid hlen
      clear hlen
      have hmx : j + 1 ≤ maxLen := by unfold maxLen; omega
      have hby : (j + 1) * 32 ≤ 140737488355328 := by have := HN.out; omega
      go_wp2_with fail
      go_region_law (first
        | (refine step_append_lies _ (by rfl) _ _ _ (by rfl) (w.heap.size + 1 + 1 + 1) 25 i0 _ 2 32 Try.underElems hi0 hz0 hz1 hz2 rfl (by omega) v j xs (by rfl) (ho2.alloc _) ⟨w1.heap.size, 0, none⟩ 1 1 [.int .i64 1, .slice none 0 0] (by rfl) (by rfl) (World.news_of_block (cs := #[.int .i64 1, .slice none 0 0]) (t := 25) (fr := (0, 0)) (heap_alloc_new w1 _)) (by simp [Value.oneCell']) (by omega) hmx hby (by simp; omega) (w1.heap.size + 1) (by simp) ?_; intro g cp w3 hown3 hgrow hat3 hlt3; have hO3 := grow_keep hgrow ((Below.heap_alloc _ _ _ hM1).trans hO1) (own_ne ho2 (by omega)); have z1 := (cell_of_block (o := 1) hO3); have z2 := (frozen_of_block (o := 1) hO3))
        | (go_simp; go_at_call 100; refine (l1Any_any _).mono ?_; rintro e w1 ⟨rfl, hb1⟩; have hbd := below_trans (below_drew wr) hb1; have x0' := cell_keep x0 hbd; have x1' := cell_keep x1 hbd; have y1' := cell_keep y1 hbd; have y0' := cell_keep y0 hbd; obtain ⟨xs, ho1, ha1, hf1, hn1⟩ := hG.below hbd; have ho2 := ho1; rw [HLEN.out] at ho2; have hO1 := (hbd.block _ hM).trans hO; have hM1 := lt_of_block hO1))
      all_goals
        have hG3 := GrowT.step (t := .mk 1 []) (f := []) (w2 := w1.alloc (Obj.cells #[.int .i64 1, .slice none 0 0] 25)) ha1 hf1 hn1 hG.block.1 hG.block.2 (by omega) (Ty.at_mk.2 ⟨_, rfl, .inl ⟨rfl, rfl, none, 0, rfl⟩⟩) (Fresh.nil _ _) ((Below.refl _ _).alloc (Nat.le_refl _) _) hgrow hown3 (by rw [HLEN.out]) (by simpa using hat3)
        have hw3 : Below (w.heap.size + 1 + 1) w1 w3 := ((Below.refl _ _).alloc (by omega) _).grown hgrow (by simp; omega) (fun b hb => by have := (ho2.lt b hb).1; omega)
        have hbb := (hb.trans (hbd.mono (by omega))).trans hw3
        rw [← grdL_take hlk] at hG3
        clear hO1 hO ha1 hf1 hn1 hgrow hown3 hat3 hlt3 ho1 ho2 hb hbd hw3 hbw hG z1 z2 x0 x1 y0 y1 x0' x1' y0' y1' r0 r1 rz
        go_wp2_with fail
        refine ⟨⟨j + 1, _, _, by omega, by go_num, hbb.setCell (p := ⟨w.heap.size + 1 + 1, 1, none⟩) (Nat.le_refl _) _, ?_, hG3.setCell (p := ⟨w.heap.size + 1 + 1, 1, none⟩) (by simp) _⟩, by simp [intOf]; omega⟩
        rw [heap_setCell_at hO3]
        rfl
    · obtain ⟨a', cap', rfl⟩ := hG.shape
      obtain ⟨fp', hs', hf'⟩ := hG.done (by unfold maxLen; rw [List.length_take, HGL.out]; omega)
      have hz : ((grdL ts).take j) = grdL ts := List.take_of_length_le (by rw [HGL.out]; omega)
      rw [hz] at hs' y1
      rw [HGL.out] at y1
      rw [HGL.out] at hs'
      have hM : w.heap.size + 1 + 1 < wr.heap.size := lt_of_block hO
      have hab := ((Above.refl (w.heap.size + 1 + 1 + 1) wr).setCell (p := ⟨w.heap.size + 1, 0, none⟩) (by simp) (.int .i64 k)).setCell (p := ⟨w.heap.size + 1, 1, none⟩) (by simp) (.slice a' ts.length cap')
      have hbb := (hbw.setCell (p := ⟨w.heap.size + 1, 0, none⟩) (by simp) (.int .i64 k)).setCell (p := ⟨w.heap.size + 1, 1, none⟩) (by simp) (.slice a' ts.length cap')
      have hst := hs'.above hab (fun b hb => hf'.ge b hb)
      have hft := (hf'.above hab (Nat.le_refl _)).mono (B' := w.heap.size) (by omega)
      clear hs' hz hG hO hb
      go_wp2_with fail
      exact bodyPost_ret (v := .agg #[.int .i64 k, .slice a' ts.length cap']) (by simp [results, Try.results83, go_sem, r0, r1]) rfl ⟨_, fp', rfl, Ty.at_mk.2 ⟨_, rfl, hst⟩, hft, hbb⟩

end Go.Proofs.Ytolhfcpmhhhjpaa

namespace Go.Proofs.Ytolhfcpmhhhjpaa
open Go.RowKit


/-- The function may be called by its value. -/
def CallOkT (fa : FuncId) : Prop := ∀ (args : Array Value) (w : World), (callFunc fa args).run Try.prog w = .ok (.enter fa args) w

/-- The result's own cell is written last. -/
theorem keepR {w1 : World} {R B : Nat} {t : Ty} {v x y : Value} {fp : List Nat} (hat : t.At w1 v fp) (hf : Fresh B w1 fp) (hR : R < B) :
    t.At ((w1.setCell ⟨R, 0, none⟩ x).setCell ⟨R, 1, none⟩ y) v fp ∧ Fresh B ((w1.setCell ⟨R, 0, none⟩ x).setCell ⟨R, 1, none⟩ y) fp := by
  have hab := ((Above.refl B w1).setCell (p := ⟨R, 0, none⟩) hR x).setCell (p := ⟨R, 1, none⟩) hR y
  exact ⟨hat.above hab hf.ge, hf.above hab (Nat.le_refl _)⟩

theorem Try.underTys2 : Try.prog.underlying 23 = some (.slice 25) := by kernel_rfl
theorem Try.infoTy2 : (Try.prog.info? 25).map (fun i => (i.zero, i.size, i.bytes)) = some (some (.agg #[.int .i64 0, .slice none 0 0]), 2, 32) := by kernel_rfl

end Go.Proofs.Ytolhfcpmhhhjpaa

namespace Go.Proofs.Ytolhfcpmhhhjpaa
open Go.RowKit

/-- The ground type of a kind. -/
def gk (k : Int) : Ty := .mk k (if k = 4 ∨ k = 5 then [.mk 1 [], .mk 1 []] else [])

theorem wf_kids {k : Int} {ts : List Ty} (h : wf (.mk k ts)) : ((k = 1 ∨ k = 2 ∨ k = 3) ∧ ts = []) ∨ ((k = 4 ∨ k = 5) ∧ ∃ a b, ts = [a, b] ∧ wf a ∧ wf b) := by
  obtain ⟨hk, hw⟩ := wf_mk h
  unfold kidsOf at hk
  by_cases h1 : k = 1 ∨ k = 2 ∨ k = 3
  · rw [if_pos h1] at hk
    exact .inl ⟨h1, List.length_eq_zero_iff.1 (by omega)⟩
  rw [if_neg h1] at hk
  by_cases h2 : k = 4 ∨ k = 5
  · rw [if_pos h2] at hk
    match ts, hk, hw with
    | [a, b], _, hw => exact .inr ⟨h2, a, b, rfl, hw a (by simp), hw b (by simp)⟩
    | [], hk, _ => simp at hk
    | [_], hk, _ => simp at hk
    | _ :: _ :: _ :: _, hk, _ => simp at hk; omega
  · rw [if_neg h2] at hk; omega

theorem grd_gk {t : Ty} (h : wf t) : grd t = gk (kindT t) := by
  obtain ⟨k, ts, rfl⟩ := t.shape
  rcases wf_kids h with ⟨hk, rfl⟩ | ⟨hk, a, b, rfl, _, _⟩
  · have : ¬ (k = 4 ∨ k = 5) := by omega
    simp [grd, gk, grdL, kindT, this]
  · simp [grd, gk, grdL, kindT, hk]

theorem wf_kind {t : Ty} (h : wf t) : 1 ≤ kindT t ∧ kindT t ≤ 5 := by
  obtain ⟨k, ts, rfl⟩ := t.shape
  rcases wf_kids h with ⟨hk, rfl⟩ | ⟨hk, a, b, rfl, _, _⟩ <;> (simp only [kindT]; omega)

/-- A new block of zero types of which the first j kinds have been set. -/
def Kinds (M n j : Nat) (wr : World) : Prop :=
  ∃ C : Array Value, wr.heap[M]? = some (.cells C 25 (0, 0)) ∧ C.size = n * 2 ∧ ∀ i, i < n → C[i * 2]? = some (.int .i64 (if i < j then 1 else 0)) ∧ C[i * 2 + 1]? = some (.slice none 0 0)

theorem made_pair (x y : Value) (n i : Nat) (h : i < n) : (madeCells #[x, y] (n * 2))[i * 2]? = some x ∧ (madeCells #[x, y] (n * 2))[i * 2 + 1]? = some y := by
  have h1 : i * 2 < n * 2 := by omega
  have h2 : i * 2 + 1 < n * 2 := by omega
  constructor
  · simp [madeCells, h1]
  · have : (i * 2 + 1) % 2 = 1 := by omega
    simp [madeCells, h2, this]

theorem Kinds.set {M n j : Nat} {w : World} (h : Kinds M n j w) (hj : j < n) : Kinds M n (j + 1) (w.setCell ⟨M, j * 2, none⟩ (.int .i64 1)) := by
  obtain ⟨C, hB, hC, hc⟩ := h
  refine ⟨_, heap_setCell_at hB _, by simp [hC], fun i hi => ⟨?_, ?_⟩⟩
  · by_cases hij : i = j
    · subst hij
      rw [if_pos (by omega)]
      simp [Array.getElem?_setIfInBounds, hC]
      omega
    · rw [Array.getElem?_setIfInBounds_ne (by omega), (hc i hi).1]
      by_cases h : i < j
      · rw [if_pos h, if_pos (by omega)]
      · rw [if_neg h, if_neg (by omega)]
  · rw [Array.getElem?_setIfInBounds_ne (by omega)]
    exact (hc i hi).2

theorem Kinds.done {M : Nat} {ts : List Ty} {w : World} (h : Kinds M ts.length ts.length w) (hp : 0 < ts.length) (hm : ts.length ≤ maxLen) : SlAt w (grdL ts) (.slice (some ⟨M, 0, none⟩) ts.length ts.length) [M] ∧ Fresh M w [M] := by
  obtain ⟨C, hB, hC, hc⟩ := h
  have hl : (grdL ts).length = ts.length := by simp [grdL]
  have hat : Ty.AtL w (grdL ts) M 0 (ts.map fun _ => ([] : List Nat)).flatten := idx_atL (by simp [grdL]) (fun i h h' => by
    have hi : i < ts.length := by rw [hl] at h; exact h
    refine ⟨1, .slice none 0 0, ?_, ?_, ?_, ?_⟩
    · rw [Nat.zero_add, cell_of_block hB, (hc i hi).1, if_pos hi]
    · rw [Nat.zero_add, cell_of_block hB, (hc i hi).2]
    · simp only [grdL, List.getElem_map, kidsT]
      exact .inl ⟨rfl, rfl, none, 0, rfl⟩
    · simp [grdL, kidsT])
  have hf : (ts.map fun _ => ([] : List Nat)).flatten = [] := by simp
  rw [hf] at hat
  exact ⟨.inr ⟨M, 0, _, [], by rw [hl], by rw [hl]; exact hp, by rw [hl]; exact Nat.le_refl _, by rw [hl]; exact hm, hat, rfl⟩, by simp, fun b hb => by
    obtain rfl : b = M := by simpa using hb
    exact ⟨Nat.le_refl _, lt_of_block hB, fun o => frozen_of_block hB⟩⟩

set_option maxHeartbeats 1600000 in
set_option maxRecDepth 100000 in
theorem groundOfKind_any (k : Int) (hk : 1 ≤ k ∧ k ≤ 5) (w : World) : Calls Try.prog 78 #[.int .i64 k] w (MadeT w (gk k)) := by
  have hc : (k = 1 ∨ k = 2 ∨ k = 3) ∨ (k = 4 ∨ k = 5) := by omega
  have hB : ∀ o : Obj, Below w.heap.size w (w.alloc o) := fun o => (Below.refl _ _).alloc (Nat.le_refl _) _
  rcases hc with hc | hc
  · have HT := hid (show gk k = .mk k [] by unfold gk; rw [if_neg (by omega)])
    have h0 : kidsOf k = 0 := by unfold kidsOf; rw [if_pos hc]
    have HK := hid h0
    rw [HT.out]
    clear h0 hc hk HT
    go_enter Try.func78, Try.ntmps78
    go_wp2_with fail
    refine (typeOperands_any _ _).mono ?_
    rintro e w1 ⟨rfl, rfl⟩
    rw [HK.out]
    go_wp2_with fail
    go_loop [14] (fun i => i = .int .i64 0) (fun _ => 0)
    case atStart => rfl
    case round =>
      obtain rfl := hrel
      go_wp2_with fail
      exact bodyPost_ret (v := .agg #[.int .i64 k, .slice none 0 0]) (by simp [results, Try.results78, go_sem]) rfl ⟨_, [], rfl, Ty.at_mk.2 ⟨_, rfl, .inl ⟨rfl, rfl, none, 0, rfl⟩⟩, Fresh.nil _ _, hB _⟩
  · have HT := hid (show gk k = .mk k (grdL [.mk 1 [], .mk 1 []]) by unfold gk; rw [if_pos hc]; rfl)
    have h0 : kidsOf k = 2 := by unfold kidsOf; rw [if_neg (by omega), if_pos hc]
    have HK := hid h0
    rw [HT.out]
    clear h0 hc hk HT
    obtain ⟨Z, hZ, hmk⟩ : ∃ Z : Array Value, (Z.size = 2 * 2 ∧ ∀ i, i < 2 → Z[i * 2]? = some (.int .i64 0) ∧ Z[i * 2 + 1]? = some (.slice none 0 0)) ∧ ∀ w : World, (Instr.makeSlice 23 (.int .i64 2) (.int .i64 2)).run Try.prog w = .ok (.slice (some ⟨w.heap.size, 0, none⟩) 2 2) (w.alloc (.cells Z 25)) := by
      obtain ⟨i0, hi, hz0, hz1, hz2⟩ := info_parts (P := Try.prog) (e := 25) Try.infoTy2
      have r := fun w : World => run_make w _ _ i0 _ Try.underTys2 hi hz0 .i64 .i64 2 2 (by omega) (by omega) (by rw [hz2]; omega) (by omega)
      simp only [hz1] at r
      exact ⟨_, ⟨size_madeCells _ _, fun i hi => made_pair _ _ _ _ hi⟩, r⟩
    have HZ := hid hZ
    clear hZ
    go_enter Try.func78, Try.ntmps78
    go_wp2_with fail
    refine (typeOperands_any _ _).mono ?_
    rintro e w1 ⟨rfl, rfl⟩
    rw [HK.out]
    have hs1 : (w.alloc (Obj.cells #[.int .i64 0, .slice none 0 0] 25)).heap.size = w.heap.size + 1 := by simp
    generalize hW : w.alloc (Obj.cells #[.int .i64 0, .slice none 0 0] 25) = W at *
    have hWb : Below w.heap.size w W := by rw [← hW]; exact hB _
    have hW0 : W.heap[w.heap.size]? = some (Obj.cells #[.int .i64 0, .slice none 0 0] 25) := by rw [← hW]; exact alloc_new _ _
    have HW0 := hid hW0
    have HS1 := hid hs1
    clear hW hB hW0 hs1
    go_wp2_with fail
    go_loopw [14] (fun i wr => ∃ j : Nat, j ≤ 2 ∧ i = .int .i64 j ∧ Kinds W.heap.size 2 j wr ∧ Below W.heap.size W wr) (fun i _ => 2 - (intOf i).toNat)
    case atStart => exact ⟨0, by omega, rfl, ⟨Z, alloc_new _ _, HZ.out.1, fun i hi => by simpa using HZ.out.2 i hi⟩, (Below.refl _ _).alloc (Nat.le_refl _) _⟩
    case round =>
      obtain ⟨j, hj, rfl, hK, hb⟩ := hrel
      by_cases hlk : j < 2
      · obtain ⟨C, hCB, hCs, hCc⟩ := hK
        have q0 : wr.cell? ⟨W.heap.size, j * 2, none⟩ = some (.int .i64 0) := by rw [cell_of_block hCB, (hCc j hlk).1, if_neg (by omega)]
        have qz := frozen_of_block (o := j * 2) hCB
        have hK1 := Kinds.set (w := wr) ⟨C, hCB, hCs, hCc⟩ hlk
        have HCC := hid hCc
        clear hCc
        go_wp2_with fail
        exact ⟨⟨j + 1, by omega, by go_num, hK1, hb.setCell (p := ⟨W.heap.size, j * 2, none⟩) (Nat.le_refl _) _⟩, by simp [intOf]; omega⟩
      · obtain rfl : j = 2 := by omega
        obtain ⟨hs', hf'⟩ := Kinds.done (ts := [.mk 1 [], .mk 1 []]) hK (by simp) (by simp [maxLen])
        have hM0 := (hb.block w.heap.size (by have := HS1.out; omega)).trans HW0.out
        have hM : w.heap.size < wr.heap.size := lt_of_block hM0
        have r0 : wr.cell? ⟨w.heap.size, 0, none⟩ = some (.int .i64 0) := by rw [cell_of_block hM0]; rfl
        have r1 : wr.cell? ⟨w.heap.size, 1, none⟩ = some (.slice none 0 0) := by rw [cell_of_block hM0]; rfl
        have rz : ∀ o, wr.frozen? ⟨w.heap.size, o, none⟩ = false := fun o => frozen_of_block hM0
        have hbb := ((hWb.trans (hb.mono hWb.size)).setCell (p := ⟨w.heap.size, 0, none⟩) (Nat.le_refl _) (.int .i64 k)).setCell (p := ⟨w.heap.size, 1, none⟩) (Nat.le_refl _) (.slice (some ⟨W.heap.size, 0, none⟩) 2 2)
        have hat1 : Ty.At wr (.mk k (grdL [.mk 1 [], .mk 1 []])) (.agg #[.int .i64 k, .slice (some ⟨W.heap.size, 0, none⟩) 2 2]) [W.heap.size] := Ty.at_mk.2 ⟨_, rfl, hs'⟩
        have hkr := keepR (R := w.heap.size) (x := .int .i64 k) (y := .slice (some ⟨W.heap.size, 0, none⟩) 2 2) hat1 hf' (by have := HS1.out; omega)
        have HFIN := hid (⟨hkr.1, hkr.2.mono (by have := HS1.out; omega), hbb⟩ : _ ∧ Fresh w.heap.size _ _ ∧ _)
        clear hK hs' hkr hat1 hbb hM0
        go_wp2_with fail
        exact bodyPost_ret (v := .agg #[.int .i64 k, .slice (some ⟨W.heap.size, 0, none⟩) 2 2]) (by simp [results, Try.results78, go_sem, r0, r1]) rfl ⟨_, _, rfl, HFIN.out.1, HFIN.out.2.1, HFIN.out.2.2⟩
end Go.Proofs.Ytolhfcpmhhhjpaa

namespace Go.Proofs.Ytolhfcpmhhhjpaa
open Go.RowKit

/-- A well-formed tree is a leaf or has two well-formed operands. -/
theorem shp_cases {d : Nat} {k : Int} {ts : List Ty} (h : shp (d + 1) (.mk k ts) = true) :
    (ts = [] ∧ (k = 1 ∨ k = 2 ∨ k = 3)) ∨ ∃ a b, ts = [a, b] ∧ (k = 4 ∨ k = 5) ∧ shp d a = true ∧ shp d b = true := by
  simp only [shp, Bool.and_eq_true, beq_iff_eq] at h
  obtain ⟨h1, h2⟩ := h
  unfold kidsOf at h1
  by_cases hk : k = 1 ∨ k = 2 ∨ k = 3
  · rw [if_pos hk] at h1
    exact .inl ⟨List.length_eq_zero_iff.1 (by omega), hk⟩
  · rw [if_neg hk] at h1
    by_cases hk2 : k = 4 ∨ k = 5
    · rw [if_pos hk2] at h1
      match ts, h1 with
      | [a, b], _ =>
        simp only [List.all_cons, List.all_nil, Bool.and_true, Bool.and_eq_true] at h2
        exact .inr ⟨a, b, rfl, hk2, h2.1, h2.2⟩
    · rw [if_neg hk2] at h1
      omega

/-- The parts of a pair's reading. -/
theorem SlAt.two {w : World} {x y : Ty} {s : Value} {fp : List Nat} (h : SlAt w [x, y] s fp) :
    ∃ b o cap k1 n1 a1 c1 k2 n2 a2 c2 f1 f2, s = .slice (some ⟨b, o, none⟩) 2 cap ∧ b < w.heap.size ∧ w.cell? ⟨b, o, none⟩ = some (.int .i64 k1) ∧ w.cell? ⟨b, o + 1, none⟩ = some (.slice a1 n1 c1) ∧ w.cell? ⟨b, o + 2, none⟩ = some (.int .i64 k2) ∧ w.cell? ⟨b, o + 2 + 1, none⟩ = some (.slice a2 n2 c2) ∧
      x.At w (.agg #[.int .i64 k1, .slice a1 n1 c1]) f1 ∧ y.At w (.agg #[.int .i64 k2, .slice a2 n2 c2]) f2 ∧ fp = b :: (f1 ++ f2) ∧ 2 ≤ cap := by
  rcases h with ⟨h, _⟩ | ⟨b, o, cap, f, rfl, _, hc, _, hl, rfl⟩
  · cases h
  · obtain ⟨v0, v1, f1, f2, c0, c1, hx, hl, rfl⟩ := hl
    obtain ⟨u0, u1, g1, g2, d0, d1, hy, hl, rfl⟩ := hl
    cases hl
    obtain ⟨k1, n1, a1, cap1, hv⟩ := hx.agg
    obtain ⟨k2, n2, a2, cap2, hu⟩ := hy.agg
    simp only [Value.agg.injEq, Array.mk.injEq, List.cons.injEq, and_true] at hv hu
    obtain ⟨rfl, rfl⟩ := hv
    obtain ⟨rfl, rfl⟩ := hu
    exact ⟨b, o, cap, k1, n1, a1, cap1, k2, n2, a2, cap2, f1, g1, rfl, World.block_lt_of_cell? _ _ c0, c0, c1, d0, d1, hx, hy, by simp, hc⟩

end Go.Proofs.Ytolhfcpmhhhjpaa

namespace Go.Proofs.Ytolhfcpmhhhjpaa
open Go.RowKit

section
variable {P : Program} {ops : Array Oper} {Q : Exit → Act → World → Prop} {md : Region.Mode} {s : Nat} {S0 S1 : World → Prop}

/-- S1 holds; and S0, as long as operation s has not come up. -/
def SLx (s : Nat) (S0 S1 : World → Prop) (l : Array Bool) (w : World) : Prop := S1 w ∧ (l.getD s true = false → S0 w)

theorem SLx_set {l : Array Bool} {i : Nat} (h : i ≠ s) (w : World) : SLx s S0 S1 (l.setIfInBounds i true) w ↔ SLx s S0 S1 l w := by
  unfold SLx
  have e : (l.setIfInBounds i true).getD s true = l.getD s true := by
    simp only [Array.getD_eq_getD_getElem?, Array.getElem?_setIfInBounds_ne h]
  rw [e]

/-- Whatever order is picked from here on; behind each operation the condition of that moment holds. -/
def wpAnyL (P : Program) (md : Region.Mode) (ops : Array Oper) (Q : Exit → Act → World → Prop) (s : Nat) (S0 S1 : World → Prop) : Nat → Array Bool → Act → World → Prop
  | 0, listed, a, w => Region.ready md ops listed = [] ∧ Q .normal a w
  | fuel + 1, listed, a, w =>
    (Region.ready md ops listed = [] → Q .normal a w) ∧
    ∀ i ∈ Region.ready md ops listed, wpOp P ops Q i (fun a' w' => SLx s S0 S1 (listed.setIfInBounds i true) w' ∧ wpAnyL P md ops Q s S0 S1 fuel (listed.setIfInBounds i true) a' w') a w

theorem wpAny_of_L : ∀ (fuel : Nat) (listed : Array Bool) (a : Act) (w : World), wpAnyL P md ops Q s S0 S1 fuel listed a w → wpAny P md ops Q fuel listed a w
  | 0, _, _, _, h => h
  | fuel + 1, _, _, _, h => ⟨h.1, fun i hi => wpOp_mono (fun a' w' h' => wpAny_of_L fuel _ a' w' h'.2) (h.2 i hi)⟩

theorem wpAnyL_first (flag : Bool) {i : Nat} {oi : Oper} {v : Value} (hi : ops[i]? = some oi) (hsel : ∀ (j : Nat) (o : Oper) cs b, ops[j]? = some o → o.op ≠ .select cs b)
    (hQ : ∀ c a w, Q (.panic c) (a.put oi.dst v) w → Q (.panic c) a w) (his : i ≠ s) (hwait : flag = true → ∃ os e, ops[s]? = some os ∧ e ∈ os.after ∧ Region.binds md e = true ∧ e.on = i) :
    ∀ (fuel : Nat) (listed : Array Bool) (a : Act) (w : World),
      (∀ j oj, ops[j]? = some oj → j ≠ i → listed.getD j true = false → (∀ e ∈ oj.after, Region.binds md e = true → e.on ≠ i) → oi.apart ops oj = true) →
      i ∈ Region.ready md ops listed → YieldsIf P ops (fun w => S1 w ∧ (flag = true → S0 w)) oi v a → (flag = true → listed.getD s true = false) → SLx s S0 S1 listed w →
      wpAnyL P md ops Q s S0 S1 fuel (listed.setIfInBounds i true) (a.put oi.dst v) w → wpAnyL P md ops Q s S0 S1 (fuel + 1) listed a w := by
  intro fuel
  induction fuel with
  | zero =>
    intro listed a w _ hr hy hfl hS H
    refine ⟨fun h => (by rw [h] at hr; cases hr), fun j hj => ?_⟩
    by_cases hji : j = i
    · subst hji; exact hy.wpOp hi ⟨hS.1, fun h => hS.2 (hfl h)⟩ ⟨(SLx_set his w).2 hS, H⟩
    · have := ready_mono hj hji
      rw [H.1] at this
      cases this
  | succ fuel ih =>
    intro listed a w hfree hr hy hfl hS H
    refine ⟨fun h => (by rw [h] at hr; cases hr), fun j hj => ?_⟩
    by_cases hji : j = i
    · subst hji; exact hy.wpOp hi ⟨hS.1, fun h => hS.2 (hfl h)⟩ ⟨(SLx_set his w).2 hS, H⟩
    · have h1 := H.2 j (ready_mono hj hji)
      obtain ⟨hjun, oj, hoj, hall⟩ := mem_ready.1 hj
      have hnot : ∀ e ∈ oj.after, Region.binds md e = true → e.on ≠ i := fun e he hb heq => by
        have h1 := hall e he hb
        have h0 := (mem_ready.1 hr).1
        rw [heq] at h1
        rcases Nat.lt_or_ge i listed.size with h' | h'
        · simp [h'] at h0 h1; rw [h0] at h1; cases h1
        · simp [Array.getElem?_eq_none h'] at h1
      have hjs : flag = true → j ≠ s := fun hf e => by
        obtain ⟨os, e', hos, he', hb, hon⟩ := hwait hf
        subst e
        rw [hos] at hoj
        cases hoj
        exact hnot e' he' hb hon
      have h2 := wpOp_putIf hoj (hfree j oj hoj hji hjun hnot) (fun cs b => hsel i oi cs b hi) (fun cs b => hsel j oj cs b hoj) hQ hy h1
      have hfree' : ∀ k ok, ops[k]? = some ok → k ≠ i → (listed.setIfInBounds j true).getD k true = false →
          (∀ e ∈ ok.after, Region.binds md e = true → e.on ≠ i) → oi.apart ops ok = true := fun k ok hk hki hun hno => by
        refine hfree k ok hk hki ?_ hno
        by_cases hjk : j = k
        · subst hjk; exact hjun
        · rw [getD_set_ne true hjk] at hun; exact hun
      have hfl' : flag = true → (listed.setIfInBounds j true).getD s true = false := fun hf => by rw [getD_set_ne true (hjs hf)]; exact hfl hf
      refine wpOp_mono (fun a' w' h3 => ?_) h2
      have hS' : SLx s S0 S1 (listed.setIfInBounds j true) w' := by
        have := h3.2.1
        rw [Array.setIfInBounds_comm _ _ (Ne.symm hji)] at this
        exact (SLx_set his w').1 this
      refine ⟨hS', ih (listed.setIfInBounds j true) a' w' hfree' (ready_mono hr (Ne.symm hji)) h3.1 hfl' hS' ?_⟩
      rw [Array.setIfInBounds_comm _ _ hji]
      exact h3.2.2

/-- Taken first under S1 alone. -/
theorem takeL {i : Nat} {oi : Oper} {v : Value} {fuel : Nat} {listed : Array Bool} {a : Act} {w : World} (hi : ops.toList[i]? = some oi)
    (hs : Region.noSelect ops = true) (hf : Region.free md ops listed i = true) (hr : (Region.ready md ops listed).contains i = true) (his : i ≠ s)
    (hQ : ∀ c a w, Q (.panic c) (a.put oi.dst v) w → Q (.panic c) a w) (hy : YieldsIf P ops S1 oi v a) (hS : SLx s S0 S1 listed w)
    (h : wpAnyL P md ops Q s S0 S1 fuel (listed.setIfInBounds i true) (a.put oi.dst v) w) : wpAnyL P md ops Q s S0 S1 (fuel + 1) listed a w := by
  have hi' : ops[i]? = some oi := by rw [← Array.getElem?_toList]; exact hi
  refine wpAnyL_first false hi' (Region.noSelect_spec hs) hQ his (fun h => by cases h) fuel listed a w (Region.free_spec hi' hf) (by simpa using hr) ?_ (fun h => by cases h) hS h
  rcases hy with ⟨h1, h2⟩ | h
  · exact .inl ⟨h1, fun w hw => h2 w hw.1⟩
  · exact .inr h

/-- Taken first under S0 too: s waits for it, and has not come up. -/
theorem takeL0 {i : Nat} {oi os : Oper} {v : Value} {fuel : Nat} {listed : Array Bool} {a : Act} {w : World} (hi : ops.toList[i]? = some oi) (hos : ops.toList[s]? = some os)
    (hs : Region.noSelect ops = true) (hf : Region.free md ops listed i = true) (hr : (Region.ready md ops listed).contains i = true) (his : i ≠ s)
    (hw : (os.after.toList.any fun e => Region.binds md e && e.on == i) = true) (hl : listed.getD s true = false)
    (hQ : ∀ c a w, Q (.panic c) (a.put oi.dst v) w → Q (.panic c) a w) (hy : YieldsIf P ops (fun w => S1 w ∧ S0 w) oi v a) (hS : SLx s S0 S1 listed w)
    (h : wpAnyL P md ops Q s S0 S1 fuel (listed.setIfInBounds i true) (a.put oi.dst v) w) : wpAnyL P md ops Q s S0 S1 (fuel + 1) listed a w := by
  have hi' : ops[i]? = some oi := by rw [← Array.getElem?_toList]; exact hi
  have hos' : ops[s]? = some os := by rw [← Array.getElem?_toList]; exact hos
  refine wpAnyL_first true hi' (Region.noSelect_spec hs) hQ his (fun _ => ?_) fuel listed a w (Region.free_spec hi' hf) (by simpa using hr) ?_ (fun _ => hl) hS h
  · obtain ⟨e, he, h2⟩ := List.any_eq_true.1 hw
    rw [Bool.and_eq_true] at h2
    exact ⟨os, e, hos', by simpa using he, h2.1, by simpa using h2.2⟩
  · rcases hy with ⟨h1, h2⟩ | h
    · exact .inl ⟨h1, fun w hw => h2 w ⟨hw.1, hw.2 rfl⟩⟩
    · exact .inr h

def AllReadyL (P : Program) (md : Region.Mode) (ops : Array Oper) (Q : Exit → Act → World → Prop) (s : Nat) (S0 S1 : World → Prop) (fuel : Nat) (listed : Array Bool) (a : Act) (w : World) (rs : List Nat) : Prop :=
  ∀ i ∈ rs, wpOp P ops Q i (fun a' w' => SLx s S0 S1 (listed.setIfInBounds i true) w' ∧ wpAnyL P md ops Q s S0 S1 fuel (listed.setIfInBounds i true) a' w') a w

theorem AllReadyL.nil {fuel : Nat} {listed : Array Bool} {a : Act} {w : World} : AllReadyL P md ops Q s S0 S1 fuel listed a w [] := fun _ h => by cases h

theorem AllReadyL.cons {fuel : Nat} {listed : Array Bool} {a : Act} {w : World} {i : Nat} {o : Oper} {rs : List Nat} (ho : ops.toList[i]? = some o)
    (h : ∀ K' : Act → World → Prop, Shut (∀ a w, SLx s S0 S1 (listed.setIfInBounds i true) w → (SLx s S0 S1 (listed.setIfInBounds i true) w → wpAnyL P md ops Q s S0 S1 fuel (listed.setIfInBounds i true) a w) → K' a w) → if Region.wanted o (yielded ops a.tmps) = true then Oper.wp P o a w K' Q else K' (a.put o.dst undef) w)
    (hs : AllReadyL P md ops Q s S0 S1 fuel listed a w rs) : AllReadyL P md ops Q s S0 S1 fuel listed a w (i :: rs) := fun j hj => by
  have ho' : ops[i]? = some o := by rw [← Array.getElem?_toList]; exact ho
  rcases List.mem_cons.1 hj with rfl | hj
  · exact wpOp_step ho' (fun K' hK => h K' (fun a w hS hW => hK a w ⟨hS, hW hS⟩))
  · exact hs j hj

theorem readyL {rs : List Nat} {fuel : Nat} {listed : Array Bool} {a : Act} {w : World} (hr : Region.ready md ops listed = rs) (hne : rs ≠ [])
    (h : AllReadyL P md ops Q s S0 S1 fuel listed a w rs) : wpAnyL P md ops Q s S0 S1 (fuel + 1) listed a w :=
  ⟨fun h0 => absurd (hr ▸ h0) hne, hr ▸ h⟩

theorem doneL {listed : Array Bool} {a : Act} {w : World} (hr : Region.ready md ops listed = []) (h : Q .normal a w) : ∀ fuel, wpAnyL P md ops Q s S0 S1 fuel listed a w
  | 0 => ⟨hr, h⟩
  | _ + 1 => ⟨fun _ => h, by rw [hr]; simp⟩

theorem regionL {id : Nat} {a : Act} {w : World} (hm : P.follows .mixedOrders = true) (h0 : S0 w.drew) (h1 : S1 w.drew)
    (h : SLx s S0 S1 (Array.replicate ops.size false) w.drew → wpAnyL P .any ops Q s S0 S1 ops.size (Array.replicate ops.size false) a w.drew) : (Code.region id ops true).wp P Q a w :=
  wp_region_any hm (wpAny_of_L _ _ _ _ (h ⟨h1, fun _ => h0⟩))
end
end Go.Proofs.Ytolhfcpmhhhjpaa

namespace Go.Proofs.Ytolhfcpmhhhjpaa
open Go.RowKit

theorem at_list {ops : Array Oper} {i : Nat} {o : Oper} (h : ops.toList[i]? = some o) : ops[i]? = some o := by
  rw [← Array.getElem?_toList]
  exact h

theorem regTake {P : Program} {ops : Array Oper} {Q : Exit → Act → World → Prop} {md : Region.Mode} {S : World → Prop} {i : Nat} {oi : Oper} {v : Value} {fuel : Nat} {listed : Array Bool} {a : Act} {w : World} (hi : ops.toList[i]? = some oi)
    (hs : Region.noSelect ops = true) (hf : Region.free md ops listed i = true) (hr : (Region.ready md ops listed).contains i = true)
    (hQ : ∀ c a w, Q (.panic c) (a.put oi.dst v) w → Q (.panic c) a w) (hy : YieldsIf P ops S oi v a) (hS : S w)
    (h : wpAnyH P md ops Q S fuel (listed.setIfInBounds i true) (a.put oi.dst v) w) : wpAnyH P md ops Q S (fuel + 1) listed a w :=
  wpAnyH_take (at_list hi) hs hf hr hQ hy hS h

theorem regCons {P : Program} {ops : Array Oper} {Q : Exit → Act → World → Prop} {md : Region.Mode} {S : World → Prop} {fuel : Nat} {listed : Array Bool} {a : Act} {w : World} {i : Nat} {o : Oper} (ho : ops.toList[i]? = some o)
    (h : ∀ K' : Act → World → Prop, Shut (∀ a w, S w → (S w → wpAnyH P md ops Q S fuel (listed.setIfInBounds i true) a w) → K' a w) → if Region.wanted o (yielded ops a.tmps) = true then Oper.wp P o a w K' Q else K' (a.put o.dst undef) w) : AllReadyH P md ops Q S fuel listed a w [i] :=
  AllReadyH.cons (at_list ho) h AllReadyH.nil

end Go.Proofs.Ytolhfcpmhhhjpaa

namespace Go.Proofs.Ytolhfcpmhhhjpaa
open Go.RowKit

/-- From w to w' only new blocks and block M have been written. -/
structure Rw (M : Nat) (w w' : World) : Prop where
  below : Below M w w'
  size : w.heap.size ≤ w'.heap.size
  above : ∀ k, M < k → k < w.heap.size → w'.heap[k]? = w.heap[k]?

theorem Rw.refl (M : Nat) (w : World) : Rw M w w := ⟨Below.refl _ _, Nat.le_refl _, fun _ _ _ => rfl⟩

theorem Rw.of_below {M : Nat} {w w' : World} (h : Below w.heap.size w w') (hM : M < w.heap.size) : Rw M w w' := ⟨h.mono (Nat.le_of_lt hM), h.size, fun k _ hk => h.block k hk⟩

theorem Rw.trans {M : Nat} {a b c : World} (h : Rw M a b) (k : Rw M b c) : Rw M a c :=
  ⟨h.below.trans k.below, Nat.le_trans h.size k.size, fun i h1 h2 => (k.above i h1 (Nat.lt_of_lt_of_le h2 h.size)).trans (h.above i h1 h2)⟩

theorem Rw.set {M : Nat} {w w' : World} (h : Rw M w w') (o : Nat) (u : Value) : Rw M w (w'.setCell ⟨M, o, none⟩ u) :=
  ⟨h.below.setCell (p := ⟨M, o, none⟩) (Nat.le_refl _) u, by rw [size_setCell]; exact h.size, fun k h1 h2 => (Below.heap_setCell _ _ _ _ (by show k ≠ M; omega)).trans (h.above k h1 h2)⟩

theorem Rw.block {M : Nat} {w w' : World} (h : Rw M w w') {k : Nat} {o : Obj} (hk : w.heap[k]? = some o) (hM : k ≠ M) : w'.heap[k]? = some o := by
  rcases Nat.lt_or_gt_of_ne hM with hl | hl
  · exact (h.below.block k hl).trans hk
  · exact (h.above k hl (lt_of_block hk)).trans hk

theorem Rw.cell {M : Nat} {w w' : World} (h : Rw M w w') {a : Addr} {v : Value} (hc : w.cell? a = some v) (hM : a.block ≠ M) : w'.cell? a = some v := by
  have hl := World.block_lt_of_cell? _ _ hc
  have hb : w'.heap[a.block]? = w.heap[a.block]? := by
    rcases Nat.lt_or_gt_of_ne hM with h1 | h1
    · exact h.below.block _ h1
    · exact h.above _ h1 hl
  exact (World.cell?_of_block (w := w) (a := a) hb).trans hc

theorem Rw.at {M : Nat} {w w' : World} (h : Rw M w w') {t : Ty} {v : Value} {fp : List Nat} (ht : t.At w v fp) (hf : ∀ b ∈ fp, b ≠ M) : t.At w' v fp :=
  ht.congr fun b hb o => World.cell?_of_block (w := w) (a := ⟨b, o, none⟩) (by
    have hl := ht.lt b hb
    rcases Nat.lt_or_gt_of_ne (hf b hb) with h1 | h1
    · exact h.below.block _ h1
    · exact h.above _ h1 hl)

theorem Rw.fresh {M B : Nat} {w w' : World} (h : Rw M w w') {fp : List Nat} (hf : Fresh B w fp) (hM : M < B) : Fresh B w' fp :=
  ⟨hf.1, fun b hb => ⟨(hf.2 b hb).1, Nat.lt_of_lt_of_le (hf.2 b hb).2.1 h.size, fun o => (World.frozen?_of_block (w := w) (a := ⟨b, o, none⟩) (h.above b (by have := (hf.2 b hb).1; omega) (hf.2 b hb).2.1)).trans ((hf.2 b hb).2.2 o)⟩⟩

theorem Rw.grown {M : Nat} {w w' : World} (h : Rw M w w') : w.grownBy w' (some M) :=
  ⟨h.below.os, h.below.tape, h.below.output, h.size, fun k hk hne => by
    have hkM : k ≠ M := fun e => hne (by rw [e])
    rcases Nat.lt_or_gt_of_ne hkM with h1 | h1
    · exact h.below.block k h1
    · exact h.above k h1 hk⟩

theorem GrowT.rw {M B : Nat} {ds : List Ty} {v : Value} {fp : List Nat} {w w' : World} (h : GrowT B ds v fp w) (hM : M < B) (hr : Rw M w w') : GrowT B ds v fp w' := by
  obtain ⟨xs, ho, ha, hf, hn⟩ := h
  refine ⟨xs, ho.kept hr.grown ?_, ha.congr (fun b hm o => World.cell?_of_block (w := w) (a := ⟨b, o, none⟩) (hr.above b (by have := (hf.2 b hm).1; omega) (hf.2 b hm).2.1)), hr.fresh hf hM, hn⟩
  cases hv : v.ownBlock with
  | none => exact .inl rfl
  | some b =>
    right
    intro e
    have := (ho.lt b hv).1
    have := Option.some.inj e
    omega

theorem add_block (a : Addr) (i : Nat) : (a.add i).block = a.block := by
  cases i <;> simp [Addr.add]

/-- The bytes of a source lie ahead of its block. -/
def BytIn (w : World) (M : Nat) (a : Option Addr) (n : Nat) : Prop := ∀ i, i < n → ∃ ad x, a = some ad ∧ ad.block < M ∧ w.cell? (ad.add i) = some (.int .u8 x) ∧ 0 ≤ x ∧ x < 256

theorem BytIn.rw {M : Nat} {w w' : World} {a : Option Addr} {n : Nat} (h : BytIn w M a n) (hr : Rw M w w') : BytIn w' M a n := fun i hi => by
  obtain ⟨ad, x, h1, h2, h3, h4⟩ := h i hi
  exact ⟨ad, x, h1, h2, hr.cell h3 (by rw [add_block]; omega), h4⟩

/-- The source of block M has been asked at most q times. -/
def RdAt (M q : Nat) (w : World) : Prop := ∃ (a : Option Addr) (n cap p : Nat), w.heap[M]? = some (.cells #[.slice a n cap, .int .i64 p] 100 (0, 0)) ∧ BytIn w M a n ∧ n ≤ 2000 ∧ p ≤ q

theorem RdAt.rw {M q : Nat} {w w' : World} (h : RdAt M q w) (hb : Below w.heap.size w w') : RdAt M q w' := by
  obtain ⟨a, n, cap, p, h1, h2, h3⟩ := h
  have hl := lt_of_block h1
  exact ⟨a, n, cap, p, (hb.block M hl).trans h1, h2.rw (Rw.of_below hb hl), h3⟩

theorem RdAt.mono {M q q' : Nat} {w : World} (h : RdAt M q w) (hq : q ≤ q') : RdAt M q' w := by
  obtain ⟨a, n, cap, p, h1, h2, h3, h4⟩ := h
  exact ⟨a, n, cap, p, h1, h2, h3, Nat.le_trans h4 hq⟩

theorem RdAt.lt {M q : Nat} {w : World} (h : RdAt M q w) : M < w.heap.size := by
  obtain ⟨a, n, cap, p, h1, _⟩ := h
  exact lt_of_block h1

theorem RdAt.below1 {M q : Nat} {w w' : World} (h : RdAt M q w) (hb : Below (M + 1) w w') : RdAt M q w' := by
  obtain ⟨a, n, cap, p, h1, h2, h3⟩ := h
  refine ⟨a, n, cap, p, (hb.block M (by omega)).trans h1, fun i hi => ?_, h3⟩
  obtain ⟨ad, x, e1, e2, e3, e4⟩ := h2 i hi
  exact ⟨ad, x, e1, e2, (hb.cell (p := ad.add i) (by rw [add_block]; omega)).trans e3, e4⟩

theorem Rw.tail {M : Nat} {a b c : World} (h : Rw M a b) (k : Below a.heap.size b c) (hM : M < a.heap.size) : Rw M a c :=
  ⟨h.below.trans (k.mono (by omega)), Nat.le_trans h.size k.size, fun i h1 h2 => (k.block i h2).trans (h.above i h1 h2)⟩

theorem Rw.drew {M : Nat} {w : World} (hM : M < w.heap.size) : Rw M w w.drew := Rw.of_below (below_drew w) hM

/-- What a draw of a number says. -/
def PickX (M q : Nat) (w : World) (P : Int → Prop) (e : Ending) (w' : World) : Prop := ∃ i, e = .returned (.int .i64 i) ∧ P i ∧ RdAt M q w' ∧ Rw M w w'

/-- What a draw of a type says. -/
def DrawX (M q : Nat) (w : World) (P : Ty → Prop) (e : Ending) (w' : World) : Prop := ∃ t v fp, e = .returned v ∧ P t ∧ t.At w' v fp ∧ Fresh w.heap.size w' fp ∧ RdAt M q w' ∧ Rw M w w'

end Go.Proofs.Ytolhfcpmhhhjpaa

namespace Go.Proofs.Ytolhfcpmhhhjpaa
open Go.RowKit

theorem shp_small8 : ∀ {d : Nat} {t : Ty}, shp d t = true → t.cnt + 2 ≤ 2 ^ (d + 1)
  | 0, _, h => by simp [shp] at h
  | d + 1, .mk k ts, h => by
    have hp : 0 < 2 ^ d := Nat.pow_pos (by omega)
    rcases shp_cases h with ⟨rfl, _⟩ | ⟨a, b, rfl, _, ha, hb⟩
    · simp only [Ty.cnt, cntL, List.length_nil, Nat.pow_succ]
      omega
    · have h1 := shp_small8 ha
      have h2 := shp_small8 hb
      simp only [Ty.cnt, cntL, List.length_cons, List.length_nil, Nat.pow_succ] at *
      omega

end Go.Proofs.Ytolhfcpmhhhjpaa

namespace Go.Proofs.Ytolhfcpmhhhjpaa
open Go.RowKit

def L1cC (t : Ty) : Prop := ∀ (u : Ty) (v1 v2 : Value) (f1 f2 : List Nat) (w : World), t.At w v1 f1 → u.At w v2 f2 → wf t → wf u →
  Calls Try.prog 80 #[v1, v2] w fun e w' => e = .returned (.bool (cons t u)) ∧ Below w.heap.size w w'

set_option maxHeartbeats 800000 in
set_option maxRecDepth 100000 in
theorem l1Consistent_of (k : Int) (ts : List Ty) (ih : ∀ t ∈ ts, L1cC t) : L1cC (.mk k ts) := by
  intro u v1 v2 f1 f2 w h1 h2 hw1 hw2
  have HIH := hid ih
  clear ih
  obtain ⟨k', us, rfl⟩ := u.shape
  obtain ⟨s1, rfl, hs1⟩ := Ty.at_mk.1 h1
  obtain ⟨s2, rfl, hs2⟩ := Ty.at_mk.1 h2
  obtain ⟨a, cap, rfl, hc, hm, hget⟩ := hs1.openA
  have HG := hid hget
  obtain ⟨a2, cap2, rfl, hc2, hm2, hget2⟩ := hs2.openA
  have HG2 := hid hget2
  have HW1 := hid (wf_mk hw1).2
  have HW2 := hid (wf_mk hw2).2
  have HLEN := hid (show k = k' → ts.length = us.length from fun e => by subst e; exact wf_len hw1 hw2)
  clear hget hget2 hs1 hs2 h1 h2 hw1 hw2
  have hal : Below w.heap.size w ((w.alloc (Obj.cells #[.int .i64 k, .slice a ts.length cap] 25)).alloc (Obj.cells #[.int .i64 k', .slice a2 us.length cap2] 25)) := ((Below.refl _ _).alloc (Nat.le_refl _) _).alloc (by simp) _
  have HAL := hid hal
  clear hal
  by_cases hk : k = 1
  · have HT := hid (show cons (.mk k ts) (.mk k' us) = true by simp [cons, hk])
    have hk0 : (k == 1) = true := by simp [hk]
    clear hk
    go_enter Try.func80, Try.ntmps80
    go_wp2_with fail
    go_ret
    exact ⟨ret_b HT.out.symm, HAL.out⟩
  have hk0 : (k == 1) = false := by simpa using hk
  have hkn : ¬ k = 1 := hk
  clear hk
  by_cases hk : k' = 1
  · have HT := hid (show cons (.mk k ts) (.mk k' us) = true by simp [cons, hk])
    have hk0' : (k' == 1) = true := by simp [hk]
    clear hk
    go_enter Try.func80, Try.ntmps80
    go_wp2_with fail
    go_ret
    exact ⟨ret_b HT.out.symm, HAL.out⟩
  have hk0' : (k' == 1) = false := by simpa using hk
  by_cases hkk : k = k'
  · have hlen := HLEN.out hkk
    have HT := hid (show cons (.mk k ts) (.mk k' us) = consL ts us by simp [cons, *])
    subst hkk
    have hle : ts.length ≤ us.length := by omega
    clear hlen HLEN
    go_enter Try.func80, Try.ntmps80
    go_wp2_with fail
    go_loopw [5] (fun i wr => ∃ j : Nat, j ≤ ts.length ∧ i = .int .i64 j ∧ consL (ts.drop j) (us.drop j) = consL ts us ∧ Below ((w.alloc (Obj.cells #[.int .i64 k, .slice a ts.length cap] 25)).alloc (Obj.cells #[.int .i64 k, .slice a2 us.length cap2] 25)).heap.size ((w.alloc (Obj.cells #[.int .i64 k, .slice a ts.length cap] 25)).alloc (Obj.cells #[.int .i64 k, .slice a2 us.length cap2] 25)) wr) (fun i _ => ts.length - (intOf i).toNat)
    case atStart => exact ⟨0, Nat.zero_le _, rfl, rfl, Below.refl _ _⟩
    case round =>
      obtain ⟨j, hj, rfl, hdr, hb⟩ := hrel
      have HD := hid hdr
      clear hdr
      obtain ⟨x0, x1, x2, x3⟩ := box_cells2 hb
      by_cases hlk : j < ts.length
      · have hlk2 : j < us.length := by omega
        obtain ⟨b, o, k1, n1, a1, cap1, g1, rfl, hblt, c0, c1, hat, hf⟩ := HG.out j hlk
        obtain ⟨b2, o2, k3, n3, a3, cap3, g2, rfl, hblt2, e0, e1, hat2, hf2⟩ := HG2.out j hlk2
        have hbw := alloc2 hb
        have d0 := (hbw.cell (p := ⟨b, o + j * 2, none⟩) hblt).trans c0
        have d1 := (hbw.cell (p := ⟨b, o + j * 2 + 1, none⟩) hblt).trans c1
        have d2 := (hbw.cell (p := ⟨b2, o2 + j * 2, none⟩) hblt2).trans e0
        have d3 := (hbw.cell (p := ⟨b2, o2 + j * 2 + 1, none⟩) hblt2).trans e1
        clear c0 c1 e0 e1
        have HST := hid (consL_step hlk hlk2)
        have HWa := hid (HW1.out _ (List.getElem_mem hlk))
        have HWb := hid (HW2.out _ (List.getElem_mem hlk2))
        go_wp2_with fail
        go_still_tail 10, (by kernel_rfl)
        go_wp2_with fail
        refine (HIH.out _ (List.getElem_mem hlk) _ _ _ _ _ _ (hat.below ?_) (hat2.below ?_) HWa.out HWb.out).mono ?_
        · exact hbw.drew
        · exact hbw.drew
        rintro e w1 ⟨rfl, hb1⟩
        have hbb := hb.trans ((below_trans (below_drew wr) hb1).mono hb.size)
        clear hb hb1 hat hat2 d0 d1 d2 d3 hbw
        generalize cons ts[j] us[j] = r at *
        cases r
        · go_wp2_with fail
          go_ret
          exact ⟨ret_b (by rw [HT.out, ← HD.out, HST.out, Bool.false_and]), alloc2 hbb⟩
        · go_wp2_with fail
          go_roundw
          case rel => exact ⟨j + 1, by omega, by go_num, by rw [← HD.out, HST.out, Bool.true_and], hbb⟩
          case measure => simp [intOf]; omega
      · go_wp2_with fail
        go_ret
        exact ⟨ret_b (by rw [HT.out, ← HD.out, List.drop_of_length_le (by omega)]; simp only [consL]), alloc2 hb⟩
  · have HT := hid (show cons (.mk k ts) (.mk k' us) = false by simp [cons, *])
    have hk1 : (k == k') = false := by simpa using hkk
    have hk2 : (k != k') = true := by simpa using hkk
    clear hkk
    go_enter Try.func80, Try.ntmps80
    go_wp2_with fail
    go_ret
    exact ⟨ret_b HT.out.symm, HAL.out⟩

theorem l1Consistent_any : ∀ t : Ty, L1cC t := Ty.ind l1Consistent_of

end Go.Proofs.Ytolhfcpmhhhjpaa

namespace Go.Proofs.Ytolhfcpmhhhjpaa
open Go.RowKit

/-- From w to w' only new blocks and the block U have been written. -/
def Cx (U : Nat) (w w' : World) : Prop := w.grownBy w' (some U)

theorem Cx.refl (U : Nat) (w : World) : Cx U w w := World.grownBy.refl _ _
theorem Cx.of_below {U : Nat} {w w' : World} (h : Below w.heap.size w w') : Cx U w w' := ⟨h.os, h.tape, h.output, h.size, fun k hk _ => h.block k hk⟩
theorem Cx.size {U : Nat} {w w' : World} (h : Cx U w w') : w.heap.size ≤ w'.heap.size := World.grownBy.size h

theorem Cx.trans {U : Nat} {a b c : World} (h : Cx U a b) (k : Cx U b c) : Cx U a c :=
  ⟨k.os.trans h.os, k.tape.trans h.tape, k.output.trans h.output, Nat.le_trans h.size k.size, fun i hi hn => (k.block i (Nat.lt_of_lt_of_le hi h.size) hn).trans (h.block i hi hn)⟩

theorem Cx.alloc {U : Nat} {a b : World} (h : Cx U a b) (o : Obj) : Cx U a (b.alloc o) := h.trans (Cx.of_below ((Below.refl _ _).alloc (Nat.le_refl _) _))

theorem Cx.drew {U : Nat} {a b : World} (h : Cx U a b) : Cx U a b.drew := ⟨h.os, h.tape, h.output, h.size, h.block⟩

theorem Cx.drewN {U : Nat} {a b : World} (h : Cx U a b) (n : Nat) : Cx U a (b.drewN n) := ⟨h.os, h.tape, h.output, h.size, h.block⟩

theorem Cx.setCell {U : Nat} {a b : World} (h : Cx U a b) (o : Nat) (u : Value) : Cx U a (b.setCell ⟨U, o, none⟩ u) :=
  ⟨h.os, h.tape, h.output, by rw [size_setCell]; exact h.size, fun i hi hn => (Below.heap_setCell b ⟨U, o, none⟩ u i (fun e => hn (by rw [e]))).trans (h.block i hi hn)⟩

theorem Cx.blk {U : Nat} {w w' : World} (h : Cx U w w') {M : Nat} {o : Obj} (hM : w.heap[M]? = some o) (hn : M ≠ U) : w'.heap[M]? = some o :=
  (h.block M (lt_of_block hM) (fun e => hn (Option.some.inj e))).trans hM

theorem Cx.cell {U : Nat} {w w' : World} (h : Cx U w w') {b o : Nat} {u : Value} (hc : w.cell? ⟨b, o, none⟩ = some u) (hn : b ≠ U) : w'.cell? ⟨b, o, none⟩ = some u :=
  (World.cell?_of_block (w := w) (a := ⟨b, o, none⟩) (h.block b (World.block_lt_of_cell? _ _ hc) (fun e => hn (Option.some.inj e)))).trans hc

theorem Cx.frozen {U : Nat} {w w' : World} (h : Cx U w w') {b o : Nat} {c : Bool} (hc : w.frozen? ⟨b, o, none⟩ = c) (hlt : b < w.heap.size) (hn : b ≠ U) : w'.frozen? ⟨b, o, none⟩ = c :=
  (World.frozen?_of_block (w := w) (a := ⟨b, o, none⟩) (h.block b hlt (fun e => hn (Option.some.inj e)))).trans hc

theorem Cx.ty {U : Nat} {w w' : World} (h : Cx U w w') {t : Ty} {x : Value} {fp : List Nat} (ht : t.At w x fp) (hn : ∀ b ∈ fp, b ≠ U) : t.At w' x fp :=
  ht.congr fun b hb o => World.cell?_of_block (w := w) (a := ⟨b, o, none⟩) (h.block b (ht.lt b hb) (fun e => hn b hb (Option.some.inj e)))

theorem Cx.fresh {U B : Nat} {w w' : World} (h : Cx U w w') {f : List Nat} (hf : Fresh B w f) (hU : U < B) : Fresh B w' f :=
  ⟨hf.1, fun b hb => ⟨(hf.2 b hb).1, Nat.lt_of_lt_of_le (hf.2 b hb).2.1 h.size, fun o => h.frozen ((hf.2 b hb).2.2 o) (hf.2 b hb).2.1 (by have := (hf.2 b hb).1; omega)⟩⟩

theorem Cx.below {U B : Nat} {w w' : World} (h : Cx U w w') (hB : B ≤ w.heap.size) (hU : B ≤ U) : Below B w w' :=
  ⟨h.os, h.tape, h.output, h.size, fun k hk => h.block k (by omega) (fun e => by have := Option.some.inj e; omega)⟩

end Go.Proofs.Ytolhfcpmhhhjpaa

namespace Go.Proofs.Ytolhfcpmhhhjpaa
open Go.RowKit

/-- A block of cells of which nothing is frozen. -/
def RawQ (w : World) (k : Nat) : Prop := (∃ C T fz, w.heap[k]? = some (.cells C T fz)) ∧ ∀ o, w.frozen? ⟨k, o, none⟩ = false

theorem same_otherQ {P : Program} (w : World) {a b c d : Nat} (hne : ¬ (a = c ∧ b = d)) (ha : RawQ w a) (hb : RawQ w c) : (sameAddr ⟨a, b, none⟩ ⟨c, d, none⟩).run P w = .ok false w := by
  obtain ⟨⟨C, T, fz, hC⟩, fa⟩ := ha
  obtain ⟨⟨C', T', fz', hC'⟩, fb⟩ := hb
  by_cases hbl : a = c
  · have hbd : b ≠ d := fun e => hne ⟨hbl, e⟩
    simp [sameAddr, hbl]
    try exact hbd
  · simp [sameAddr, hbl, fa, fb, noView, viewAt, World.shape?, hC, hC', mayBeOne, stringish]

theorem Try.underPtrQ : Try.prog.underlying 56 = some (.pointer 30) := Try.underlying56

theorem ptr_eqQ (w : World) (n a b c d : Nat) (ha : RawQ w a) (hb : RawQ w c) :
    (Op.equalIn (n + 1) 56 (.pointer (some ⟨a, b, none⟩)) (.pointer (some ⟨c, d, none⟩))).run Try.prog w = .ok (decide (a = c ∧ b = d)) w := by
  obtain ⟨i0, hi, hz0, hz1, hz2⟩ := info_parts (P := Try.prog) (e := 30) (z := .agg #[.int .i64 0, .int .i64 0, .int .i64 0, .slice none 0 0]) (size := 4) (bytes := 48) (by kernel_rfl)
  by_cases h : a = c ∧ b = d
  · obtain ⟨rfl, rfl⟩ := h
    simp [Op.equalIn, run_underlying Try.underPtrQ, sizeOf, typeInfo, hi, run_sameAddr_same]
  · simp [Op.equalIn, run_underlying Try.underPtrQ, sizeOf, typeInfo, hi, hz1, same_otherQ w h ha hb, h]

/-- The value of a key. -/
def kvQ (p q : Nat × Nat) : Value := .agg #[.pointer (some ⟨p.1, p.2, none⟩), .pointer (some ⟨q.1, q.2, none⟩)]

theorem kv_injQ {p q p' q' : Nat × Nat} (h : kvQ p q = kvQ p' q') : p = p' ∧ q = q' := by
  simp only [kvQ, Value.agg.injEq, Array.mk.injEq, List.cons.injEq, Value.pointer.injEq, Option.some.injEq, Addr.mk.injEq, and_true] at h
  exact ⟨Prod.ext h.1.1 h.1.2, Prod.ext h.2.1 h.2.2⟩

theorem key_eqQ (w : World) (p q p' q' : Nat × Nat) (h1 : RawQ w p.1) (h2 : RawQ w q.1) (h3 : RawQ w p'.1) (h4 : RawQ w q'.1) :
    (Op.equal 92 (kvQ p q) (kvQ p' q')).run Try.prog w = .ok (decide (p = p' ∧ q = q')) w := by
  have e1 := ptr_eqQ w 9998 p.1 p.2 p'.1 p'.2 h1 h3
  have e2 := ptr_eqQ w 9998 q.1 q.2 q'.1 q'.2 h2 h4
  have hs : Try.prog.stoodInHeld 92 = false := by kernel_rfl
  simp only [kvQ, Op.equal, Op.maxDepth] at *
  rw [Op.equalIn]
  simp [run_underlying Try.underlying92, hs, Go.part, isAgg, e1, e2]
  obtain ⟨a, b⟩ := p
  obtain ⟨c, d⟩ := q
  obtain ⟨a', b'⟩ := p'
  obtain ⟨c', d'⟩ := q'
  by_cases g1 : a = a' <;> by_cases g2 : b = b' <;> by_cases g3 : c = c' <;> by_cases g4 : d = d' <;> simp [g1, g2, g3, g4]

/-- What the keys of a map are. -/
def KPQ (w : World) (es : List MapEntry) : Prop := ∀ e ∈ es, ∃ p q : Nat × Nat, e.key = kvQ p q ∧ e.val = .bool true ∧ RawQ w p.1 ∧ RawQ w q.1

theorem find_askQ (w : World) (p q : Nat × Nat) (h1 : RawQ w p.1) (h2 : RawQ w q.1) : ∀ (es : List MapEntry) (i : Nat), KPQ w es →
    ((Instr.findAsking 92 (kvQ p q) es i).run Try.prog w = .ok none w ∧ ∀ e ∈ es, e.key ≠ kvQ p q) ∨ ∃ j e, (Instr.findAsking 92 (kvQ p q) es i).run Try.prog w = .ok (some (i + j, e.val)) w ∧ es[j]? = some e ∧ e.key = kvQ p q
  | [], i, _ => .inl ⟨by simp [Instr.findAsking], by simp⟩
  | e :: es, i, h => by
    obtain ⟨p', q', hk, hv, h3, h4⟩ := h e (by simp)
    have hq := key_eqQ w p q p' q' h1 h2 h3 h4
    rw [← hk] at hq
    by_cases hpq : p = p' ∧ q = q'
    · obtain ⟨rfl, rfl⟩ := hpq
      refine .inr ⟨0, e, ?_, rfl, hk⟩
      simp [Instr.findAsking, hq]
    · rcases find_askQ w p q h1 h2 es (i + 1) (fun e' he => h e' (by simp [he])) with ⟨r1, r2⟩ | ⟨j, e', r1, r2, r3⟩
      · refine .inl ⟨by simp [Instr.findAsking, hq, hpq, r1], fun e' he hke => ?_⟩
        rcases List.mem_cons.1 he with rfl | he
        · rw [hk] at hke
          have := kv_injQ hke
          exact hpq ⟨this.1.symm, this.2.symm⟩
        · exact r2 e' he hke
      · refine .inr ⟨j + 1, e', ?_, by simpa using r2, r3⟩
        simp [Instr.findAsking, hq, hpq, r1]
        omega

theorem find_keyQ (w : World) (p q : Nat × Nat) (h1 : RawQ w p.1) (h2 : RawQ w q.1) (es : List MapEntry) (h : KPQ w es) :
    ((Instr.findKey 92 (kvQ p q) es).run Try.prog w = .ok none w ∧ ∀ e ∈ es, e.key ≠ kvQ p q) ∨ ∃ j e, (Instr.findKey 92 (kvQ p q) es).run Try.prog w = .ok (some (j, e.val)) w ∧ es[j]? = some e ∧ e.key = kvQ p q := by
  cases es with
  | nil => exact .inl ⟨by simp [Instr.findKey, run_underlying Try.underlying92, Instr.findNow], by simp⟩
  | cons e es =>
    obtain ⟨p', q', hk, hv, h3, h4⟩ := h e (by simp)
    have hn : Instr.findNow (.struct #[]) (kvQ p q) (e :: es) 0 = none := by simp [Instr.findNow, Instr.sameNow]
    rcases find_askQ w p q h1 h2 (e :: es) 0 h with ⟨r1, r2⟩ | ⟨j, e', r1, r2, r3⟩
    · exact .inl ⟨by simp [Instr.findKey, run_underlying Try.underlying92, Instr.findNow, Instr.sameNow, r1], r2⟩
    · exact .inr ⟨j, e', by simpa [Instr.findKey, run_underlying Try.underlying92, Instr.findNow, Instr.sameNow] using r1, r2, r3⟩

theorem check_anyQ (w : World) (em : Bool) (p q : Nat × Nat) (n : Nat) : (Instr.checkKey em (n + 1 + 1) 92 (kvQ p q)).run Try.prog w = .ok () w := by
  rw [Instr.checkKey]
  simp [kvQ, run_underlying Try.underlying92, run_underlying Try.underPtrQ, Go.part, isAgg, Instr.checkKey]

theorem check_keyQ (w : World) (em : Bool) (p q : Nat × Nat) : (Instr.checkKey em 10000 92 (kvQ p q)).run Try.prog w = .ok () w := check_anyQ w em p q 9998

theorem look_runQ (w : World) (M : Nat) (es : Array MapEntry) (clock : Nat) (p q : Nat × Nat) (hM : w.heap[M]? = some (.map es clock)) (h : KPQ w es.toList) (h1 : RawQ w p.1) (h2 : RawQ w q.1) :
    ∃ r : Bool, (Instr.lookup 55 (.map (some M)) (kvQ p q) false).run Try.prog w = .ok (.bool r) w ∧ (r = true → ∃ e ∈ es.toList, e.key = kvQ p q) := by
  have hc := check_keyQ w es.isEmpty p q
  have hz : (zeroValue 4).run Try.prog w = .ok (.bool false) w := Try.zeroValue4 w
  rcases find_keyQ w p q h1 h2 es.toList h with ⟨r1, r2⟩ | ⟨j, e, r1, r2, r3⟩
  · exact ⟨false, by simp [Instr.lookup, run_underlying Try.underlying55, getObj, Sem.run, hM, hc, r1, hz], fun h => by cases h⟩
  · have he := List.mem_of_getElem? r2
    obtain ⟨_, _, _, hv, _⟩ := h e he
    rw [hv] at r1
    exact ⟨true, by simp [Instr.lookup, run_underlying Try.underlying55, getObj, Sem.run, hM, hc, r1], fun _ => ⟨e, he, r3⟩⟩

theorem stays_runQ (w : World) (p q : Nat × Nat) : (Instr.keyThatStays (kvQ p q) (kvQ p q)).run Try.prog w = .ok (kvQ p q) w := by
  have : Instr.sameBits 10000 (kvQ p q) (kvQ p q) = true := by
    rw [show (10000 : Nat) = 9999 + 1 from rfl]
    simp [kvQ, Instr.sameBits]
  simp [Instr.keyThatStays, this]

theorem store_runQ (w : World) (M : Nat) (es : Array MapEntry) (clock : Nat) (p q : Nat × Nat) (hM : w.heap[M]? = some (.map es clock)) (h : KPQ w es.toList) (h1 : RawQ w p.1) (h2 : RawQ w q.1) :
    ∃ es' clock', (Instr.mapUpdate 55 (.map (some M)) (kvQ p q) (.bool true)).run Try.prog w = .ok () (Go.ChangeMaps.setBlock w M (.map es' clock')) ∧
      ∀ e ∈ es'.toList, (∃ e0 ∈ es.toList, e.key = e0.key ∧ e.val = e0.val) ∨ e.key = kvQ p q ∧ e.val = .bool true := by
  have hc := check_keyQ w false p q
  have hst := stays_runQ w p q
  rcases find_keyQ w p q h1 h2 es.toList h with ⟨r1, r2⟩ | ⟨j, e, r1, r2, r3⟩
  · refine ⟨es.push { key := kvQ p q, val := .bool true, born := clock }, clock + 1, by simp [Instr.mapUpdate, run_underlying Try.underlying55, getObj, setObj, Sem.run, hM, hc, r1, Go.ChangeMaps.setBlock], fun e he => ?_⟩
    rw [Array.toList_push] at he
    rcases List.mem_append.1 he with he | he
    · exact .inl ⟨e, he, rfl, rfl⟩
    · obtain rfl : e = _ := by simpa using he
      exact .inr ⟨rfl, rfl⟩
  · have hje : es[j]? = some e := by simpa using r2
    refine ⟨es.modify j fun e => { e with key := kvQ p q, val := .bool true }, clock, by simp [Instr.mapUpdate, run_underlying Try.underlying55, getObj, setObj, Sem.run, hM, hc, r1, hje, r3, hst, Go.ChangeMaps.setBlock], fun e' he => ?_⟩
    obtain ⟨i, hi⟩ := List.mem_iff_getElem?.1 he
    simp only [Array.getElem?_toList, Array.getElem?_modify] at hi
    by_cases hij : j = i
    · rw [if_pos hij] at hi
      obtain ⟨e1, _, rfl⟩ := Option.map_eq_some_iff.1 hi
      exact .inr ⟨rfl, rfl⟩
    · rw [if_neg hij] at hi
      exact .inl ⟨e', List.mem_of_getElem? (by simpa using hi), rfl, rfl⟩

theorem cx_setBlockQ (w : World) (M : Nat) (o : Obj) : Cx M w (Go.ChangeMaps.setBlock w M o) :=
  ⟨rfl, rfl, rfl, by simp [Go.ChangeMaps.setBlock], fun k _ hn => by
    simp only [Go.ChangeMaps.setBlock, Array.getElem?_setIfInBounds]
    rw [if_neg (fun e => hn (by rw [e]))]⟩

theorem wpList_store_ptrQ (w : World) {ops : Array Oper} {rest : List Oper} {o : Oper} {a : Act} {Q : Exit → Act → World → Prop} (hg : o.guard = none) (m x v : Operand) (hop : o.op = Op.mapUpdate 55 m x v)
    (M : Nat) (es : Array MapEntry) (clock : Nat) (p q : Nat × Nat) (hm : a.eval m = .map (some M)) (hx : a.eval x = kvQ p q) (hv : a.eval v = .bool true) (hM : w.heap[M]? = some (.map es clock)) (h : KPQ w es.toList) (h1 : RawQ w p.1) (h2 : RawQ w q.1)
    (hK : ∀ w' es' clock', w'.heap[M]? = some (.map es' clock') → Cx M w w' → (∀ e ∈ es'.toList, (∃ e0 ∈ es.toList, e.key = e0.key ∧ e.val = e0.val) ∨ e.key = kvQ p q ∧ e.val = .bool true) → wpList Try.prog ops Q rest (a.put o.dst undef) w') :
    wpList Try.prog ops Q (o :: rest) a w := by
  refine wpList_plain hg fun K' hK' => ?_
  obtain ⟨es', clock', hrun, hes⟩ := store_runQ w M es clock p q hM h h1 h2
  unfold Oper.wp
  simp [execOp, hop, hm, hx, hv, hrun, Result.andThen]
  refine hK' _ _ (hK _ es' clock' ?_ (cx_setBlockQ w M _) hes)
  simp [Go.ChangeMaps.setBlock, lt_of_block hM]
end Go.Proofs.Ytolhfcpmhhhjpaa

namespace Go.Proofs.Ytolhfcpmhhhjpaa
open Go.RowKit

/-- A block of cells of which nothing is frozen. -/
def Raw (w : World) (k : Nat) : Prop := (∃ C T fz, w.heap[k]? = some (.cells C T fz)) ∧ ∀ o, w.frozen? ⟨k, o, none⟩ = false

theorem same_other {P : Program} (w : World) {a b c d : Nat} (hne : ¬ (a = c ∧ b = d)) (ha : Raw w a) (hb : Raw w c) : (sameAddr ⟨a, b, none⟩ ⟨c, d, none⟩).run P w = .ok false w := by
  obtain ⟨⟨C, T, fz, hC⟩, fa⟩ := ha
  obtain ⟨⟨C', T', fz', hC'⟩, fb⟩ := hb
  by_cases hbl : a = c
  · have hbd : b ≠ d := fun e => hne ⟨hbl, e⟩
    simp [sameAddr, hbl]
    try exact hbd
  · simp [sameAddr, hbl, fa, fb, noView, viewAt, World.shape?, hC, hC', mayBeOne, stringish]

theorem Try.underPtr : Try.prog.underlying 72 = some (.pointer 25) := Try.underlying72

theorem ptr_eq (w : World) (n a b c d : Nat) (ha : Raw w a) (hb : Raw w c) :
    (Op.equalIn (n + 1) 72 (.pointer (some ⟨a, b, none⟩)) (.pointer (some ⟨c, d, none⟩))).run Try.prog w = .ok (decide (a = c ∧ b = d)) w := by
  obtain ⟨i0, hi, hz0, hz1, hz2⟩ := info_parts (P := Try.prog) (e := 25) (z := .agg #[.int .i64 0, .slice none 0 0]) (size := 2) (bytes := 32) (by kernel_rfl)
  by_cases h : a = c ∧ b = d
  · obtain ⟨rfl, rfl⟩ := h
    simp [Op.equalIn, run_underlying Try.underPtr, sizeOf, typeInfo, hi, run_sameAddr_same]
  · simp [Op.equalIn, run_underlying Try.underPtr, sizeOf, typeInfo, hi, hz1, same_other w h ha hb, h]

/-- The value of a key. -/
def kv (p q : Nat × Nat) : Value := .agg #[.pointer (some ⟨p.1, p.2, none⟩), .pointer (some ⟨q.1, q.2, none⟩)]

theorem kv_inj {p q p' q' : Nat × Nat} (h : kv p q = kv p' q') : p = p' ∧ q = q' := by
  simp only [kv, Value.agg.injEq, Array.mk.injEq, List.cons.injEq, Value.pointer.injEq, Option.some.injEq, Addr.mk.injEq, and_true] at h
  exact ⟨Prod.ext h.1.1 h.1.2, Prod.ext h.2.1 h.2.2⟩

theorem key_eq (w : World) (p q p' q' : Nat × Nat) (h1 : Raw w p.1) (h2 : Raw w q.1) (h3 : Raw w p'.1) (h4 : Raw w q'.1) :
    (Op.equal 97 (kv p q) (kv p' q')).run Try.prog w = .ok (decide (p = p' ∧ q = q')) w := by
  have e1 := ptr_eq w 9998 p.1 p.2 p'.1 p'.2 h1 h3
  have e2 := ptr_eq w 9998 q.1 q.2 q'.1 q'.2 h2 h4
  have hs : Try.prog.stoodInHeld 97 = false := by kernel_rfl
  simp only [kv, Op.equal, Op.maxDepth] at *
  rw [Op.equalIn]
  simp [run_underlying Try.underlying97, hs, Go.part, isAgg, e1, e2]
  obtain ⟨a, b⟩ := p
  obtain ⟨c, d⟩ := q
  obtain ⟨a', b'⟩ := p'
  obtain ⟨c', d'⟩ := q'
  by_cases g1 : a = a' <;> by_cases g2 : b = b' <;> by_cases g3 : c = c' <;> by_cases g4 : d = d' <;> simp [g1, g2, g3, g4]

/-- What the keys of a map are. -/
def KP (w : World) (es : List MapEntry) : Prop := ∀ e ∈ es, ∃ p q : Nat × Nat, e.key = kv p q ∧ e.val = .bool true ∧ Raw w p.1 ∧ Raw w q.1

theorem find_ask (w : World) (p q : Nat × Nat) (h1 : Raw w p.1) (h2 : Raw w q.1) : ∀ (es : List MapEntry) (i : Nat), KP w es →
    ((Instr.findAsking 97 (kv p q) es i).run Try.prog w = .ok none w ∧ ∀ e ∈ es, e.key ≠ kv p q) ∨ ∃ j e, (Instr.findAsking 97 (kv p q) es i).run Try.prog w = .ok (some (i + j, e.val)) w ∧ es[j]? = some e ∧ e.key = kv p q
  | [], i, _ => .inl ⟨by simp [Instr.findAsking], by simp⟩
  | e :: es, i, h => by
    obtain ⟨p', q', hk, hv, h3, h4⟩ := h e (by simp)
    have hq := key_eq w p q p' q' h1 h2 h3 h4
    rw [← hk] at hq
    by_cases hpq : p = p' ∧ q = q'
    · obtain ⟨rfl, rfl⟩ := hpq
      refine .inr ⟨0, e, ?_, rfl, hk⟩
      simp [Instr.findAsking, hq]
    · rcases find_ask w p q h1 h2 es (i + 1) (fun e' he => h e' (by simp [he])) with ⟨r1, r2⟩ | ⟨j, e', r1, r2, r3⟩
      · refine .inl ⟨by simp [Instr.findAsking, hq, hpq, r1], fun e' he hke => ?_⟩
        rcases List.mem_cons.1 he with rfl | he
        · rw [hk] at hke
          have := kv_inj hke
          exact hpq ⟨this.1.symm, this.2.symm⟩
        · exact r2 e' he hke
      · refine .inr ⟨j + 1, e', ?_, by simpa using r2, r3⟩
        simp [Instr.findAsking, hq, hpq, r1]
        omega

theorem find_key (w : World) (p q : Nat × Nat) (h1 : Raw w p.1) (h2 : Raw w q.1) (es : List MapEntry) (h : KP w es) :
    ((Instr.findKey 97 (kv p q) es).run Try.prog w = .ok none w ∧ ∀ e ∈ es, e.key ≠ kv p q) ∨ ∃ j e, (Instr.findKey 97 (kv p q) es).run Try.prog w = .ok (some (j, e.val)) w ∧ es[j]? = some e ∧ e.key = kv p q := by
  cases es with
  | nil => exact .inl ⟨by simp [Instr.findKey, run_underlying Try.underlying97, Instr.findNow], by simp⟩
  | cons e es =>
    obtain ⟨p', q', hk, hv, h3, h4⟩ := h e (by simp)
    have hn : Instr.findNow (.struct #[]) (kv p q) (e :: es) 0 = none := by simp [Instr.findNow, Instr.sameNow]
    rcases find_ask w p q h1 h2 (e :: es) 0 h with ⟨r1, r2⟩ | ⟨j, e', r1, r2, r3⟩
    · exact .inl ⟨by simp [Instr.findKey, run_underlying Try.underlying97, Instr.findNow, Instr.sameNow, r1], r2⟩
    · exact .inr ⟨j, e', by simpa [Instr.findKey, run_underlying Try.underlying97, Instr.findNow, Instr.sameNow] using r1, r2, r3⟩

theorem check_any (w : World) (em : Bool) (p q : Nat × Nat) (n : Nat) : (Instr.checkKey em (n + 1 + 1) 97 (kv p q)).run Try.prog w = .ok () w := by
  rw [Instr.checkKey]
  simp [kv, run_underlying Try.underlying97, run_underlying Try.underPtr, Go.part, isAgg, Instr.checkKey]

theorem check_key (w : World) (em : Bool) (p q : Nat × Nat) : (Instr.checkKey em 10000 97 (kv p q)).run Try.prog w = .ok () w := check_any w em p q 9998

theorem look_run (w : World) (M : Nat) (es : Array MapEntry) (clock : Nat) (p q : Nat × Nat) (hM : w.heap[M]? = some (.map es clock)) (h : KP w es.toList) (h1 : Raw w p.1) (h2 : Raw w q.1) :
    ∃ r : Bool, (Instr.lookup 66 (.map (some M)) (kv p q) false).run Try.prog w = .ok (.bool r) w ∧ (r = true → ∃ e ∈ es.toList, e.key = kv p q) := by
  have hc := check_key w es.isEmpty p q
  have hz : (zeroValue 4).run Try.prog w = .ok (.bool false) w := Try.zeroValue4 w
  rcases find_key w p q h1 h2 es.toList h with ⟨r1, r2⟩ | ⟨j, e, r1, r2, r3⟩
  · exact ⟨false, by simp [Instr.lookup, run_underlying Try.underlying66, getObj, Sem.run, hM, hc, r1, hz], fun h => by cases h⟩
  · have he := List.mem_of_getElem? r2
    obtain ⟨_, _, _, hv, _⟩ := h e he
    rw [hv] at r1
    exact ⟨true, by simp [Instr.lookup, run_underlying Try.underlying66, getObj, Sem.run, hM, hc, r1], fun _ => ⟨e, he, r3⟩⟩

theorem stays_run (w : World) (p q : Nat × Nat) : (Instr.keyThatStays (kv p q) (kv p q)).run Try.prog w = .ok (kv p q) w := by
  have : Instr.sameBits 10000 (kv p q) (kv p q) = true := by
    rw [show (10000 : Nat) = 9999 + 1 from rfl]
    simp [kv, Instr.sameBits]
  simp [Instr.keyThatStays, this]

theorem store_run (w : World) (M : Nat) (es : Array MapEntry) (clock : Nat) (p q : Nat × Nat) (hM : w.heap[M]? = some (.map es clock)) (h : KP w es.toList) (h1 : Raw w p.1) (h2 : Raw w q.1) :
    ∃ es' clock', (Instr.mapUpdate 66 (.map (some M)) (kv p q) (.bool true)).run Try.prog w = .ok () (Go.ChangeMaps.setBlock w M (.map es' clock')) ∧
      ∀ e ∈ es'.toList, (∃ e0 ∈ es.toList, e.key = e0.key ∧ e.val = e0.val) ∨ e.key = kv p q ∧ e.val = .bool true := by
  have hc := check_key w false p q
  have hst := stays_run w p q
  rcases find_key w p q h1 h2 es.toList h with ⟨r1, r2⟩ | ⟨j, e, r1, r2, r3⟩
  · refine ⟨es.push { key := kv p q, val := .bool true, born := clock }, clock + 1, by simp [Instr.mapUpdate, run_underlying Try.underlying66, getObj, setObj, Sem.run, hM, hc, r1, Go.ChangeMaps.setBlock], fun e he => ?_⟩
    rw [Array.toList_push] at he
    rcases List.mem_append.1 he with he | he
    · exact .inl ⟨e, he, rfl, rfl⟩
    · obtain rfl : e = _ := by simpa using he
      exact .inr ⟨rfl, rfl⟩
  · have hje : es[j]? = some e := by simpa using r2
    refine ⟨es.modify j fun e => { e with key := kv p q, val := .bool true }, clock, by simp [Instr.mapUpdate, run_underlying Try.underlying66, getObj, setObj, Sem.run, hM, hc, r1, hje, r3, hst, Go.ChangeMaps.setBlock], fun e' he => ?_⟩
    obtain ⟨i, hi⟩ := List.mem_iff_getElem?.1 he
    simp only [Array.getElem?_toList, Array.getElem?_modify] at hi
    by_cases hij : j = i
    · rw [if_pos hij] at hi
      obtain ⟨e1, _, rfl⟩ := Option.map_eq_some_iff.1 hi
      exact .inr ⟨rfl, rfl⟩
    · rw [if_neg hij] at hi
      exact .inl ⟨e', List.mem_of_getElem? (by simpa using hi), rfl, rfl⟩

theorem cx_setBlock (w : World) (M : Nat) (o : Obj) : Cx M w (Go.ChangeMaps.setBlock w M o) :=
  ⟨rfl, rfl, rfl, by simp [Go.ChangeMaps.setBlock], fun k _ hn => by
    simp only [Go.ChangeMaps.setBlock, Array.getElem?_setIfInBounds]
    rw [if_neg (fun e => hn (by rw [e]))]⟩

theorem wpList_store_ptr (w : World) {ops : Array Oper} {rest : List Oper} {o : Oper} {a : Act} {Q : Exit → Act → World → Prop} (hg : o.guard = none) (m x v : Operand) (hop : o.op = Op.mapUpdate 66 m x v)
    (M : Nat) (es : Array MapEntry) (clock : Nat) (p q : Nat × Nat) (hm : a.eval m = .map (some M)) (hx : a.eval x = kv p q) (hv : a.eval v = .bool true) (hM : w.heap[M]? = some (.map es clock)) (h : KP w es.toList) (h1 : Raw w p.1) (h2 : Raw w q.1)
    (hK : ∀ w' es' clock', w'.heap[M]? = some (.map es' clock') → Cx M w w' → (∀ e ∈ es'.toList, (∃ e0 ∈ es.toList, e.key = e0.key ∧ e.val = e0.val) ∨ e.key = kv p q ∧ e.val = .bool true) → wpList Try.prog ops Q rest (a.put o.dst undef) w') :
    wpList Try.prog ops Q (o :: rest) a w := by
  refine wpList_plain hg fun K' hK' => ?_
  obtain ⟨es', clock', hrun, hes⟩ := store_run w M es clock p q hM h h1 h2
  unfold Oper.wp
  simp [execOp, hop, hm, hx, hv, hrun, Result.andThen]
  refine hK' _ _ (hK _ es' clock' ?_ (cx_setBlock w M _) hes)
  simp [Go.ChangeMaps.setBlock, lt_of_block hM]
end Go.Proofs.Ytolhfcpmhhhjpaa

namespace Go.Proofs.Ytolhfcpmhhhjpaa
open Go.RowKit

mutual
/-- The meet of two consistent types. -/
def meet : Ty → Ty → Ty
  | .mk k ts, .mk k' us => if k = 1 then .mk k' us else if k' = 1 then .mk k ts else .mk k (meetL ts us)
def meetL : List Ty → List Ty → List Ty
  | t :: ts, u :: us => meet t u :: meetL ts us
  | _, _ => []
end


end Go.Proofs.Ytolhfcpmhhhjpaa

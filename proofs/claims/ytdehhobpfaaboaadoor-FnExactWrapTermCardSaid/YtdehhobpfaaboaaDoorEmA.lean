/- A term that is given the unknown type: l9As, asUnknown. -/
import Derived.Test.YtdehhobpfaaboaaDoorEm0
import Derived.Test.YtdehhobpfaaboaaDoorPkA
import Derived.Test.YtdehhobpfaaboaaDoorRgL
namespace Go.Proofs.YtdehhobpfaaboaaDoor
open Go.RowKit

/-- What is given the unknown type: the operand lies in one new block and where it lay. -/
def AsOut (w : World) (t : Tm) (fp : List Nat) (e : Ending) (w' : World) : Prop :=
  ∃ M v, e = .returned v ∧ (asT t).At w' v (M :: fp) ∧ w.heap.size ≤ M ∧ M < w'.heap.size ∧ (∀ o, w'.frozen? ⟨M, o, none⟩ = false) ∧ Below w.heap.size w w'

theorem fresh_cons {B M : Nat} {w : World} {f : List Nat} (h : Fresh B w f) (hlt : ∀ b ∈ f, b < M) (hB : B ≤ M) (hM : M < w.heap.size) (hz : ∀ o, w.frozen? ⟨M, o, none⟩ = false) : Fresh B w (M :: f) :=
  ⟨List.nodup_cons.2 ⟨fun h' => by have := hlt M h'; omega, h.1⟩, fun b hb => by
    rcases List.mem_cons.1 hb with rfl | hb
    · exact ⟨hB, hM, hz⟩
    · exact h.2 b hb⟩

theorem asT_at {w : World} {t : Tm} {fp : List Nat} {M : Nat} {e0 : Int} {e1 : ByteArray} {e2 e3 : Int} {e4 e6 : Nat} {e5 : Option Addr} {e7 : Int} {e8 e10 : Nat} {e9 : Option Addr} {e11 : Int} {e12 e14 : Nat} {e13 : Option Addr}
    (hM : w.heap[M]? = some (Obj.cells #[.int .i64 e0, .string e1, .int .i64 e2, .int .i64 e3, .slice e5 e4 e6, .int .i64 e7, .slice e9 e8 e10, .int .i64 e11, .slice e13 e12 e14] 34)) (hat : t.At w (.agg #[.int .i64 e0, .string e1, .int .i64 e2, .int .i64 e3, .slice e5 e4 e6, .int .i64 e7, .slice e9 e8 e10, .int .i64 e11, .slice e13 e12 e14]) fp) : (asT t).At w (.agg #[.int .i64 13, .string ⟨#[]⟩, .int .i64 0, .int .i64 1, .slice none 0 0, .int .i64 0, .slice none 0 0, .int .i64 0, .slice (some ⟨M, 0, none⟩) 1 1]) (M :: fp) := by
  refine Tm.at_mk.2 ⟨_, _, _, _, _, [], [], M :: (fp ++ []), rfl, by decide, Ty.at_mk.2 ⟨_, rfl, .inl ⟨rfl, rfl, _, _, rfl⟩⟩, Ty.at_mk.2 ⟨_, rfl, .inl ⟨rfl, rfl, _, _, rfl⟩⟩, by simp, .inr ⟨M, 0, 1, fp ++ [], rfl, by simp, by simp, by simp [maxLen], ?_, rfl⟩⟩
  simp only [Tm.AtL]
  refine ⟨_, fp, [], ?_, hat, rfl, rfl⟩
  intro i hi
  rw [cell_of_block hM, Nat.zero_add]

theorem as_done {w WF : World} {t : Tm} {fp : List Nat} {M : Nat} {e0 : Int} {e1 : ByteArray} {e2 e3 : Int} {e4 e6 : Nat} {e5 : Option Addr} {e7 : Int} {e8 e10 : Nat} {e9 : Option Addr} {e11 : Int} {e12 e14 : Nat} {e13 : Option Addr}
    (hat : t.At w (.agg #[.int .i64 e0, .string e1, .int .i64 e2, .int .i64 e3, .slice e5 e4 e6, .int .i64 e7, .slice e9 e8 e10, .int .i64 e11, .slice e13 e12 e14]) fp) (hM : WF.heap[M]? = some (Obj.cells #[.int .i64 e0, .string e1, .int .i64 e2, .int .i64 e3, .slice e5 e4 e6, .int .i64 e7, .slice e9 e8 e10, .int .i64 e11, .slice e13 e12 e14] 34)) (hb : Below w.heap.size w WF) (hge : w.heap.size ≤ M) : AsOut w t fp (.returned (.agg #[.int .i64 13, .string ⟨#[]⟩, .int .i64 0, .int .i64 1, .slice none 0 0, .int .i64 0, .slice none 0 0, .int .i64 0, .slice (some ⟨M, 0, none⟩) 1 1])) WF :=
  ⟨M, _, rfl, asT_at hM (hat.below hb), hge, lt_of_block hM, fun o => frozen_of_block (o := o) hM, hb⟩

theorem as_close {w WF : World} {t : Tm} {fp : List Nat} {M : Nat} {e0 : Int} {e1 : ByteArray} {e2 e3 : Int} {e4 e6 : Nat} {e5 : Option Addr} {e7 : Int} {e8 e10 : Nat} {e9 : Option Addr} {e11 : Int} {e12 e14 : Nat} {e13 : Option Addr}
    (hat : t.At w (.agg #[.int .i64 e0, .string e1, .int .i64 e2, .int .i64 e3, .slice e5 e4 e6, .int .i64 e7, .slice e9 e8 e10, .int .i64 e11, .slice e13 e12 e14]) fp) (hM : WF.heap[M]? = some (Obj.cells #[.int .i64 e0, .string e1, .int .i64 e2, .int .i64 e3, .slice e5 e4 e6, .int .i64 e7, .slice e9 e8 e10, .int .i64 e11, .slice e13 e12 e14] 34)) (hb : Below w.heap.size w WF) (hge : w.heap.size + 1 + 1 ≤ M) :
    AsOut w t fp (.returned (.agg #[.int .i64 13, .string ⟨#[]⟩, .int .i64 0, .int .i64 1, .slice none 0 0, .int .i64 0, .slice none 0 0, .int .i64 0, .slice (some ⟨M, 0, none⟩) 1 1])) (put WF (w.heap.size + 1) 0 [.int .i64 13, .string ⟨#[]⟩, .int .i64 0, .int .i64 1, .slice none 0 0, .int .i64 0, .slice none 0 0, .int .i64 0, .slice (some ⟨M, 0, none⟩) 1 1]) := by
  have hlt := hat.lt
  have hM2 : (put WF (w.heap.size + 1) 0 [.int .i64 13, .string ⟨#[]⟩, .int .i64 0, .int .i64 1, .slice none 0 0, .int .i64 0, .slice none 0 0, .int .i64 0, .slice (some ⟨M, 0, none⟩) 1 1]).heap[M]? = some (Obj.cells #[.int .i64 e0, .string e1, .int .i64 e2, .int .i64 e3, .slice e5 e4 e6, .int .i64 e7, .slice e9 e8 e10, .int .i64 e11, .slice e13 e12 e14] 34) := (heap_put_ne (by omega)).trans hM
  have h1 := asT_at hM (hat.below hb)
  refine ⟨M, _, rfl, h1.congr fun b hb' o => World.cell?_of_block (w := WF) (a := ⟨b, o, none⟩) (heap_put_ne (show b ≠ w.heap.size + 1 from ?_)), by omega, lt_of_block hM2, fun o => frozen_of_block (o := o) hM2, below_put hb (by omega)⟩
  rcases List.mem_cons.1 hb' with rfl | hb'
  · omega
  · have := hlt b hb'
    omega

set_option maxRecDepth 100000 in
set_option maxHeartbeats 2000000 in
theorem l9As_any (t : Tm) (v : Value) (fp : List Nat) (w : World) (hat : t.At w v fp) : Calls Tryd.prog 69 #[v] w (AsOut w t fp) := by
  obtain ⟨e0, e1, e2, e3, e4, e5, e6, e7, e8, e9, e10, e11, e12, e13, e14, rfl⟩ := hat.agg
  have HAT := hid hat
  clear hat
  have HM := hid (fun (W : World) (h : Below (((w.alloc (Obj.cells #[.int .i64 e0, .string e1, .int .i64 e2, .int .i64 e3, .slice e5 e4 e6, .int .i64 e7, .slice e9 e8 e10, .int .i64 e11, .slice e13 e12 e14] 34)).alloc (Obj.cells #[.int .i64 0, .string ⟨#[]⟩, .int .i64 0, .int .i64 0, .slice none 0 0, .int .i64 0, .slice none 0 0, .int .i64 0, .slice none 0 0] 34))).heap.size ((w.alloc (Obj.cells #[.int .i64 e0, .string e1, .int .i64 e2, .int .i64 e3, .slice e5 e4 e6, .int .i64 e7, .slice e9 e8 e10, .int .i64 e11, .slice e13 e12 e14] 34)).alloc (Obj.cells #[.int .i64 0, .string ⟨#[]⟩, .int .i64 0, .int .i64 0, .slice none 0 0, .int .i64 0, .slice none 0 0, .int .i64 0, .slice none 0 0] 34)) W) => two_out (w := w) (o1 := (Obj.cells #[.int .i64 e0, .string e1, .int .i64 e2, .int .i64 e3, .slice e5 e4 e6, .int .i64 e7, .slice e9 e8 e10, .int .i64 e11, .slice e13 e12 e14] 34)) (o2 := (Obj.cells #[.int .i64 0, .string ⟨#[]⟩, .int .i64 0, .int .i64 0, .slice none 0 0, .int .i64 0, .slice none 0 0, .int .i64 0, .slice none 0 0] 34)) h)
  have HB0 := hid (show Below w.heap.size w ((w.alloc (Obj.cells #[.int .i64 e0, .string e1, .int .i64 e2, .int .i64 e3, .slice e5 e4 e6, .int .i64 e7, .slice e9 e8 e10, .int .i64 e11, .slice e13 e12 e14] 34)).alloc (Obj.cells #[.int .i64 0, .string ⟨#[]⟩, .int .i64 0, .int .i64 0, .slice none 0 0, .int .i64 0, .slice none 0 0, .int .i64 0, .slice none 0 0] 34)) from ((Below.refl _ _).alloc (Nat.le_refl _) _).alloc (by simp) _)
  have HS0 := hid (fun (W : World) (h : Below (((w.alloc (Obj.cells #[.int .i64 e0, .string e1, .int .i64 e2, .int .i64 e3, .slice e5 e4 e6, .int .i64 e7, .slice e9 e8 e10, .int .i64 e11, .slice e13 e12 e14] 34)).alloc (Obj.cells #[.int .i64 0, .string ⟨#[]⟩, .int .i64 0, .int .i64 0, .slice none 0 0, .int .i64 0, .slice none 0 0, .int .i64 0, .slice none 0 0] 34))).heap.size ((w.alloc (Obj.cells #[.int .i64 e0, .string e1, .int .i64 e2, .int .i64 e3, .slice e5 e4 e6, .int .i64 e7, .slice e9 e8 e10, .int .i64 e11, .slice e13 e12 e14] 34)).alloc (Obj.cells #[.int .i64 0, .string ⟨#[]⟩, .int .i64 0, .int .i64 0, .slice none 0 0, .int .i64 0, .slice none 0 0, .int .i64 0, .slice none 0 0] 34)) W) => (show (fun w' => w'.cell? ⟨w.heap.size, 0, none⟩ = some (.int .i64 e0) ∧ w'.cell? ⟨w.heap.size, 1, none⟩ = some (.string e1) ∧ w'.cell? ⟨w.heap.size, 2, none⟩ = some (.int .i64 e2) ∧ w'.cell? ⟨w.heap.size, 3, none⟩ = some (.int .i64 e3) ∧ w'.cell? ⟨w.heap.size, 4, none⟩ = some (.slice e5 e4 e6) ∧ w'.cell? ⟨w.heap.size, 5, none⟩ = some (.int .i64 e7) ∧ w'.cell? ⟨w.heap.size, 6, none⟩ = some (.slice e9 e8 e10) ∧ w'.cell? ⟨w.heap.size, 7, none⟩ = some (.int .i64 e11) ∧ w'.cell? ⟨w.heap.size, 8, none⟩ = some (.slice e13 e12 e14)) W from cells9 (HM.out W h).1))
  go_enter Tryd.func69, Tryd.ntmps69
  go_wp2_with fail
  refine regionL (s := 4) (S0 := (fun w' => w'.cell? ⟨w.heap.size, 0, none⟩ = some (.int .i64 e0) ∧ w'.cell? ⟨w.heap.size, 1, none⟩ = some (.string e1) ∧ w'.cell? ⟨w.heap.size, 2, none⟩ = some (.int .i64 e2) ∧ w'.cell? ⟨w.heap.size, 3, none⟩ = some (.int .i64 e3) ∧ w'.cell? ⟨w.heap.size, 4, none⟩ = some (.slice e5 e4 e6) ∧ w'.cell? ⟨w.heap.size, 5, none⟩ = some (.int .i64 e7) ∧ w'.cell? ⟨w.heap.size, 6, none⟩ = some (.slice e9 e8 e10) ∧ w'.cell? ⟨w.heap.size, 7, none⟩ = some (.int .i64 e11) ∧ w'.cell? ⟨w.heap.size, 8, none⟩ = some (.slice e13 e12 e14))) (S1 := (fun _ => True)) (by kernel_rfl) (HS0.out _ (below_drew _)) (trivial) (fun hS0 => ?_)
  refine takeL0 (i := 1) (v := ?vq1) rfl rfl (by kernel_rfl) (by kernel_rfl) (by kernel_rfl) (by decide) (by kernel_rfl) (by kernel_rfl) (fun _ _ _ h => h) (Or.inl ⟨by rfl, ?hyq1⟩) (by assumption) ?_
  case hyq1 => (intro w hSw; (try dsimp only at hSw); go_simp; (try with_reducible rfl))
  try simp only [Act.put, List.setIfInBounds_toArray, List.set_cons_zero, List.set_cons_succ]
  refine readyL (rs := [0, 2]) (by kernel_rfl) (by simp) ?_
  refine AllReadyL.cons rfl (fun K hK => ?_) ?_
  · go_simp
    refine (l1Any_any _).mono ?_
    rintro e w1 ⟨rfl, hb1⟩
    have hB1 := below_trans (below_drew _) hb1
    refine hK.out _ _ ?_ (fun hS1 => ?_)
    · exact ⟨trivial, fun _ => HS0.out _ hB1⟩
    clear hK K hS0
    try simp only [Act.put, List.setIfInBounds_toArray, List.set_cons_zero, List.set_cons_succ]
    refine readyL (rs := [2]) (by kernel_rfl) (by simp) ?_
    refine AllReadyL.cons rfl (fun K hK => ?_) AllReadyL.nil
    go_simp
    refine hK.out _ _ ?_ (fun hS2 => ?_)
    · exact ⟨trivial, fun _ => HS0.out _ (hB1.alloc hB1.size _)⟩
    clear hK K hS1
    try simp only [Act.put, List.setIfInBounds_toArray, List.set_cons_zero, List.set_cons_succ]
    refine takeL0 (i := 3) (v := ?vq2) rfl rfl (by kernel_rfl) (by kernel_rfl) (by kernel_rfl) (by decide) (by kernel_rfl) (by kernel_rfl) (fun _ _ _ h => h) (Or.inl ⟨by rfl, ?hyq2⟩) (by assumption) ?_
    case hyq2 => (intro w hSw; (try dsimp only at hSw); go_simp; (try with_reducible rfl))
    try simp only [Act.put, List.setIfInBounds_toArray, List.set_cons_zero, List.set_cons_succ]
    refine readyL (rs := [4]) (by kernel_rfl) (by simp) ?_
    refine AllReadyL.cons rfl (fun K hK => ?_) AllReadyL.nil
    obtain ⟨y0, y1, y2, y3, y4, y5, y6, y7, y8⟩ := cells9 (HM.out _ hB1).2
    have yz := fun o => frozen_of_block (o := o) (HM.out _ hB1).2
    have hM1 : w.heap.size + 1 < w1.heap.size := lt_of_block (HM.out _ hB1).2
    go_simp
    refine hK.out _ _ ?_ (fun hS3 => ?_)
    · exact ⟨trivial, fun h => absurd (h.symm.trans (show _ = true by kernel_rfl)) (by decide)⟩
    clear hK K hS2
    try simp only [Act.put, List.setIfInBounds_toArray, List.set_cons_zero, List.set_cons_succ]
    refine doneL (by kernel_rfl) ?_ _
    have FIN := hid (show AsOut w t fp (.returned (.agg #[.int .i64 13, .string ⟨#[]⟩, .int .i64 0, .int .i64 1, .slice none 0 0, .int .i64 0, .slice none 0 0, .int .i64 0, .slice (some ⟨w1.heap.size, 0, none⟩) 1 1])) ((put w1 (w.heap.size + 1) 0 [.int .i64 13, .string ⟨#[]⟩, .int .i64 0, .int .i64 1, .slice none 0 0, .int .i64 0, .slice none 0 0, .int .i64 0, .slice (some ⟨w1.heap.size, 0, none⟩) 1 1]).alloc (Obj.cells #[.int .i64 e0, .string e1, .int .i64 e2, .int .i64 e3, .slice e5 e4 e6, .int .i64 e7, .slice e9 e8 e10, .int .i64 e11, .slice e13 e12 e14] 34)) from as_done HAT.out (by have h := alloc_new (put w1 (w.heap.size + 1) 0 [.int .i64 13, .string ⟨#[]⟩, .int .i64 0, .int .i64 1, .slice none 0 0, .int .i64 0, .slice none 0 0, .int .i64 0, .slice (some ⟨w1.heap.size, 0, none⟩) 1 1]) (Obj.cells #[.int .i64 e0, .string e1, .int .i64 e2, .int .i64 e3, .slice e5 e4 e6, .int .i64 e7, .slice e9 e8 e10, .int .i64 e11, .slice e13 e12 e14] 34); rw [size_put] at h; exact h) ((below_put (HB0.out.trans (hB1.mono (by simp; omega))) (by omega)).alloc (by rw [size_put]; omega) (Obj.cells #[.int .i64 e0, .string e1, .int .i64 e2, .int .i64 e3, .slice e5 e4 e6, .int .i64 e7, .slice e9 e8 e10, .int .i64 e11, .slice e13 e12 e14] 34)) (by omega))
    simp only [put, Nat.zero_add, Nat.reduceAdd] at FIN
    clear hb1 hB1
    go_wp2_with fail
    exact bodyPost_ret (v := .agg #[.int .i64 13, .string ⟨#[]⟩, .int .i64 0, .int .i64 1, .slice none 0 0, .int .i64 0, .slice none 0 0, .int .i64 0, .slice (some ⟨w1.heap.size, 0, none⟩) 1 1]) (by simp [results, Tryd.results69, go_sem, hM1, y0, y1, y2, y3, y4, y5, y6, y7, y8]) rfl FIN.out
  refine AllReadyL.cons rfl (fun K hK => ?_) AllReadyL.nil
  go_simp
  refine hK.out _ _ ?_ (fun hS1 => ?_)
  · exact ⟨trivial, fun _ => HS0.out _ ((below_drew _).alloc (by simp) _)⟩
  clear hK K hS0
  try simp only [Act.put, List.setIfInBounds_toArray, List.set_cons_zero, List.set_cons_succ]
  refine readyL (rs := [0]) (by kernel_rfl) (by simp) ?_
  refine AllReadyL.cons rfl (fun K hK => ?_) AllReadyL.nil
  go_simp
  refine (l1Any_any _).mono ?_
  rintro e w1 ⟨rfl, hb1⟩
  have hB1 := below_trans (((Below.refl (((w.alloc (Obj.cells #[.int .i64 e0, .string e1, .int .i64 e2, .int .i64 e3, .slice e5 e4 e6, .int .i64 e7, .slice e9 e8 e10, .int .i64 e11, .slice e13 e12 e14] 34)).alloc (Obj.cells #[.int .i64 0, .string ⟨#[]⟩, .int .i64 0, .int .i64 0, .slice none 0 0, .int .i64 0, .slice none 0 0, .int .i64 0, .slice none 0 0] 34))).heap.size ((w.alloc (Obj.cells #[.int .i64 e0, .string e1, .int .i64 e2, .int .i64 e3, .slice e5 e4 e6, .int .i64 e7, .slice e9 e8 e10, .int .i64 e11, .slice e13 e12 e14] 34)).alloc (Obj.cells #[.int .i64 0, .string ⟨#[]⟩, .int .i64 0, .int .i64 0, .slice none 0 0, .int .i64 0, .slice none 0 0, .int .i64 0, .slice none 0 0] 34))).alloc (Nat.le_refl _) (Obj.cells #[.int .i64 e0, .string e1, .int .i64 e2, .int .i64 e3, .slice e5 e4 e6, .int .i64 e7, .slice e9 e8 e10, .int .i64 e11, .slice e13 e12 e14] 34)).drew) hb1
  refine hK.out _ _ ?_ (fun hS2 => ?_)
  · exact ⟨trivial, fun _ => HS0.out _ hB1⟩
  clear hK K hS1
  try simp only [Act.put, List.setIfInBounds_toArray, List.set_cons_zero, List.set_cons_succ]
  refine takeL0 (i := 3) (v := ?vq3) rfl rfl (by kernel_rfl) (by kernel_rfl) (by kernel_rfl) (by decide) (by kernel_rfl) (by kernel_rfl) (fun _ _ _ h => h) (Or.inl ⟨by rfl, ?hyq3⟩) (by assumption) ?_
  case hyq3 => (intro w hSw; (try dsimp only at hSw); go_simp; (try with_reducible rfl))
  try simp only [Act.put, List.setIfInBounds_toArray, List.set_cons_zero, List.set_cons_succ]
  refine readyL (rs := [4]) (by kernel_rfl) (by simp) ?_
  refine AllReadyL.cons rfl (fun K hK => ?_) AllReadyL.nil
  obtain ⟨y0, y1, y2, y3, y4, y5, y6, y7, y8⟩ := cells9 (HM.out _ hB1).2
  have yz := fun o => frozen_of_block (o := o) (HM.out _ hB1).2
  have hM1 : w.heap.size + 1 < w1.heap.size := lt_of_block (HM.out _ hB1).2
  go_simp
  refine hK.out _ _ ?_ (fun hS3 => ?_)
  · exact ⟨trivial, fun h => absurd (h.symm.trans (show _ = true by kernel_rfl)) (by decide)⟩
  clear hK K hS2
  try simp only [Act.put, List.setIfInBounds_toArray, List.set_cons_zero, List.set_cons_succ]
  refine doneL (by kernel_rfl) ?_ _
  have FIN := hid (as_close (w := w) (WF := w1) (M := (w.heap.size + 1 + 1)) (t := t) (fp := fp) HAT.out (by have h := (hb1.block _ (lt_of_block (alloc_new ((w.alloc (Obj.cells #[.int .i64 e0, .string e1, .int .i64 e2, .int .i64 e3, .slice e5 e4 e6, .int .i64 e7, .slice e9 e8 e10, .int .i64 e11, .slice e13 e12 e14] 34)).alloc (Obj.cells #[.int .i64 0, .string ⟨#[]⟩, .int .i64 0, .int .i64 0, .slice none 0 0, .int .i64 0, .slice none 0 0, .int .i64 0, .slice none 0 0] 34)) (Obj.cells #[.int .i64 e0, .string e1, .int .i64 e2, .int .i64 e3, .slice e5 e4 e6, .int .i64 e7, .slice e9 e8 e10, .int .i64 e11, .slice e13 e12 e14] 34)))).trans (alloc_new ((w.alloc (Obj.cells #[.int .i64 e0, .string e1, .int .i64 e2, .int .i64 e3, .slice e5 e4 e6, .int .i64 e7, .slice e9 e8 e10, .int .i64 e11, .slice e13 e12 e14] 34)).alloc (Obj.cells #[.int .i64 0, .string ⟨#[]⟩, .int .i64 0, .int .i64 0, .slice none 0 0, .int .i64 0, .slice none 0 0, .int .i64 0, .slice none 0 0] 34)) (Obj.cells #[.int .i64 e0, .string e1, .int .i64 e2, .int .i64 e3, .slice e5 e4 e6, .int .i64 e7, .slice e9 e8 e10, .int .i64 e11, .slice e13 e12 e14] 34)); simpa using h) (HB0.out.trans (hB1.mono (by simp; omega))) (Nat.le_refl _))
  simp only [put, Nat.zero_add, Nat.reduceAdd] at FIN
  clear hb1 hB1
  go_wp2_with fail
  exact bodyPost_ret (v := .agg #[.int .i64 13, .string ⟨#[]⟩, .int .i64 0, .int .i64 1, .slice none 0 0, .int .i64 0, .slice none 0 0, .int .i64 0, .slice (some ⟨(w.heap.size + 1 + 1), 0, none⟩) 1 1]) (by simp [results, Tryd.results69, go_sem, y0, y1, y2, y3, y4, y5, y6, y7, y8]) rfl FIN.out

set_option maxRecDepth 100000 in
set_option maxHeartbeats 2000000 in
theorem asUnknown_any (t : Tm) (v : Value) (fp : List Nat) (w : World) (hat : t.At w v fp) : Calls Tryd.prog 71 #[v] w (AsOut w t fp) := by
  obtain ⟨e0, e1, e2, e3, e4, e5, e6, e7, e8, e9, e10, e11, e12, e13, e14, rfl⟩ := hat.agg
  have HAT := hid hat
  clear hat
  have FIN := hid (show AsOut w t fp (.returned (.agg #[.int .i64 13, .string ⟨#[]⟩, .int .i64 0, .int .i64 1, .slice none 0 0, .int .i64 0, .slice none 0 0, .int .i64 0, .slice (some ⟨w.heap.size + 1 + 1, 0, none⟩) 1 1])) (((w.alloc (Obj.cells #[.int .i64 e0, .string e1, .int .i64 e2, .int .i64 e3, .slice e5 e4 e6, .int .i64 e7, .slice e9 e8 e10, .int .i64 e11, .slice e13 e12 e14] 34)).alloc (Obj.cells #[.int .i64 13, .string ⟨#[]⟩, .int .i64 0, .int .i64 1, .slice none 0 0, .int .i64 0, .slice none 0 0, .int .i64 0, .slice (some ⟨w.heap.size + 1 + 1, 0, none⟩) 1 1] 34)).alloc (Obj.cells #[.int .i64 e0, .string e1, .int .i64 e2, .int .i64 e3, .slice e5 e4 e6, .int .i64 e7, .slice e9 e8 e10, .int .i64 e11, .slice e13 e12 e14] 34)) from as_done HAT.out (by have h := alloc_new ((w.alloc (Obj.cells #[.int .i64 e0, .string e1, .int .i64 e2, .int .i64 e3, .slice e5 e4 e6, .int .i64 e7, .slice e9 e8 e10, .int .i64 e11, .slice e13 e12 e14] 34)).alloc (Obj.cells #[.int .i64 13, .string ⟨#[]⟩, .int .i64 0, .int .i64 1, .slice none 0 0, .int .i64 0, .slice none 0 0, .int .i64 0, .slice (some ⟨w.heap.size + 1 + 1, 0, none⟩) 1 1] 34)) (Obj.cells #[.int .i64 e0, .string e1, .int .i64 e2, .int .i64 e3, .slice e5 e4 e6, .int .i64 e7, .slice e9 e8 e10, .int .i64 e11, .slice e13 e12 e14] 34); simpa using h) ((((Below.refl _ _).alloc (Nat.le_refl _) _).alloc (by simp) _).alloc (by simp; omega) _) (by omega))
  clear HAT
  go_enter Tryd.func71, Tryd.ntmps71
  go_wp2_with fail
  exact bodyPost_ret (v := .agg #[.int .i64 13, .string ⟨#[]⟩, .int .i64 0, .int .i64 1, .slice none 0 0, .int .i64 0, .slice none 0 0, .int .i64 0, .slice (some ⟨w.heap.size + 1 + 1, 0, none⟩) 1 1]) (by simp [results, Tryd.results71, go_sem]) rfl FIN.out
end Go.Proofs.YtdehhobpfaaboaaDoor

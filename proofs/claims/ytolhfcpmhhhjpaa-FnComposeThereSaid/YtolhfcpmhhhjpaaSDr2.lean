/- Draws: a valid type (l1Draw, l1Type). -/
import Derived.Deep.RegionLaw
import Derived.Test.YtolhfcpmhhhjpaaSDr1
import Derived.Test.YtolhfcpmhhhjpaaSPkA
import Derived.Test.YtolhfcpmhhhjpaaSG1
namespace Go.Proofs.Ytolhfcpmhhhjpaa
open Go.RowKit

def DwC (d : Nat) : Prop := ∀ (M q : Nat) (w : World), RdAt M q w → q + 3 ^ d ≤ 1000000 → Calls Try.prog 91 #[.pointer (some ⟨M, 0, none⟩), .int .i64 d] w (DrawX M (q + 3 ^ d) w (fun t => shp d t = true))

theorem kidsOf_2 {k : Int} (h : 1 ≤ k ∧ k ≤ 5) : ∃ n : Nat, kidsOf k = n ∧ n ≤ 2 ∧ (n = 2 → 4 ≤ k) ∧ (n = 2 ∨ n = 0) := by
  have : k = 1 ∨ k = 2 ∨ k = 3 ∨ k = 4 ∨ k = 5 := by omega
  rcases this with rfl | rfl | rfl | rfl | rfl
  · exact ⟨0, by decide, by omega, by omega, by omega⟩
  · exact ⟨0, by decide, by omega, by omega, by omega⟩
  · exact ⟨0, by decide, by omega, by omega, by omega⟩
  · exact ⟨2, by decide, by omega, by omega, by omega⟩
  · exact ⟨2, by decide, by omega, by omega, by omega⟩

theorem shp_make {d n : Nat} {k : Int} {ds : List Ty} (hk : kidsOf k = n) (hl : ds.length = n) (ha : ∀ t ∈ ds, shp d t = true) : shp (d + 1) (.mk k ds) = true := by
  simp only [shp, Bool.and_eq_true, beq_iff_eq, List.all_eq_true]
  exact ⟨by rw [hk, hl], ha⟩

theorem pow_pos2 (d : Nat) : 1 ≤ 3 ^ d := Nat.pow_pos (by omega)

set_option linter.unusedSimpArgs false in
set_option maxRecDepth 100000 in
set_option maxHeartbeats 4000000 in
theorem l1Draw_of (d : Nat) (hd : d ≤ 4) (ih : 1 ≤ d → DwC d) : DwC (d + 1) := by
  intro M q w hR0 hq
  have HIH := hid ih
  clear ih
  obtain ⟨i0, hi0, hz0, hz1, hz2⟩ := info_parts (P := Try.prog) (e := 25) Try.infoElem
  have hMw := hR0.lt
  have hbA : Below w.heap.size w ((w.alloc (Obj.cells #[.int .i64 0, .slice none 0 0] 25)).alloc (Obj.cells #[.int .i64 2, .int .i64 1, .int .i64 4, .int .i64 3, .int .i64 5, .int .i64 2, .int .i64 4] 3)) := ((Below.refl _ _).alloc (Nat.le_refl _) _).alloc (by simp) _
  have hW0 : Rw M w ((w.alloc (Obj.cells #[.int .i64 0, .slice none 0 0] 25)).alloc (Obj.cells #[.int .i64 2, .int .i64 1, .int .i64 4, .int .i64 3, .int .i64 5, .int .i64 2, .int .i64 4] 3)) := Rw.of_below hbA hMw
  have hE0 : ((w.alloc (Obj.cells #[.int .i64 0, .slice none 0 0] 25)).alloc (Obj.cells #[.int .i64 2, .int .i64 1, .int .i64 4, .int .i64 3, .int .i64 5, .int .i64 2, .int .i64 4] 3)).heap[w.heap.size]? = some (Obj.cells #[.int .i64 0, .slice none 0 0] 25) := (Below.heap_alloc _ _ _ (by simp)).trans (alloc_new _ _)
  have hE1 : ((w.alloc (Obj.cells #[.int .i64 0, .slice none 0 0] 25)).alloc (Obj.cells #[.int .i64 2, .int .i64 1, .int .i64 4, .int .i64 3, .int .i64 5, .int .i64 2, .int .i64 4] 3)).heap[w.heap.size + 1]? = some (Obj.cells #[.int .i64 2, .int .i64 1, .int .i64 4, .int .i64 3, .int .i64 5, .int .i64 2, .int .i64 4] 3) := by
    have := alloc_new (w.alloc (Obj.cells #[.int .i64 0, .slice none 0 0] 25)) (Obj.cells #[.int .i64 2, .int .i64 1, .int .i64 4, .int .i64 3, .int .i64 5, .int .i64 2, .int .i64 4] 3)
    simpa using this
  have hpd := pow_pos2 (d + 1)
  have HN := hid (num_any M q (w.heap.size + 1) [2, 1, 4, 3, 5, 2, 4] _ (hR0.rw hbA) (by omega) (by omega) (fun j hj => by
    rw [cell_of_block hE1]
    have : j = 0 ∨ j = 1 ∨ j = 2 ∨ j = 3 ∨ j = 4 ∨ j = 5 ∨ j = 6 := by simp at hj; omega
    rcases this with rfl | rfl | rfl | rfl | rfl | rfl | rfl <;> rfl) (by simp) (by simp))
  clear hbA hR0 hE1
  go_enter Try.func91, Try.ntmps91
  go_wp2_with fail
  refine HN.out.mono ?_
  rintro e w1 ⟨k0, rfl, hk0, hR1, hW1⟩
  have hk15 : 1 ≤ k0 ∧ k0 ≤ 5 := by
    simp only [List.mem_cons, List.not_mem_nil, or_false] at hk0
    omega
  clear hk0
  by_cases hA : d = 0 ∧ 4 ≤ k0
  · obtain ⟨hd0, hk4⟩ := hA
    have hge : k0 ≥ 4 := hk4
    have hd2 : ((d + 1 : Nat) : Int) < 2 := by omega
    have hd3 : (d : Int) + 1 < 2 := by omega
    clear hd0
    obtain ⟨nk, hnk, hn2, hn4, hn02⟩ := kidsOf_2 (k := 1) (by omega)
    have HNK := hid hnk
    have HND := hid (show nk = 2 → 1 ≤ d from fun e => by have h4 := hn4 e; omega)
    have hMw1 := hR1.lt
    have hM1 : M < w1.heap.size := hMw1
    have HR1 := hid hR1
    have HW1 := hid (hW0.trans hW1)
    have hEr := hW1.block hE0 (by omega)
    have HER := hid hEr
    have hw1s : w.heap.size + 1 + 1 ≤ w1.heap.size := by have := hW1.size; simp at this; exact this
    have h2d := pow_pos2 d
    have hpw : 3 ^ (d + 1) = 3 * 3 ^ d := by rw [Nat.pow_succ]; omega
    clear hR1 hW1 hnk hEr hn4
    go_wp2_with fail
    go_loopw [7] (fun i wr => ∃ (j : Nat) (v : Value) (f : List Nat) (ds : List Ty), j ≤ nk ∧ i = .int .i64 j ∧ ds.length = j ∧ (∀ t ∈ ds, shp d t = true) ∧ RdAt M (q + 1 + j * 3 ^ d) wr ∧ Rw M w1 wr ∧ wr.heap[w1.heap.size]? = some (.cells #[.int .i64 1, v] 25 (0, 0)) ∧ GrowT (w1.heap.size + 1) ds v f wr)
      (fun i _ => nk - (intOf i).toNat)
    case atStart => exact ⟨0, .slice none 0 0, [], [], Nat.zero_le _, rfl, rfl, by simp, by simpa using HR1.out.rw ((Below.refl _ _).alloc (Nat.le_refl _) _), Rw.of_below ((Below.refl _ _).alloc (Nat.le_refl _) _) hM1, alloc_new _ _, GrowT.zero _ _⟩
    case round =>
      obtain ⟨j, v, f, ds, hj, rfl, hdl, hall, hR, hW, hO, hG⟩ := hrel
      have y0 : wr.cell? ⟨w1.heap.size, 0, none⟩ = some (.int .i64 1) := by rw [cell_of_block hO]; rfl
      have y1 : wr.cell? ⟨w1.heap.size, 1, none⟩ = some v := by rw [cell_of_block hO]; rfl
      have HALL := hid hall
      clear hall
      go_wp2_with fail
      refine (l1Kids_any _ _).mono ?_
      rintro e w2 ⟨rfl, rfl⟩
      rw [HNK.out]
      by_cases hlk : j < nk
      · have hdd : 1 ≤ d := HND.out (by omega)
        have hM : w1.heap.size < w2.heap.size := lt_of_block hO
        have HLEN := hid hdl
        have hmx : j + 1 ≤ maxLen := by unfold maxLen; omega
        have hby : (j + 1) * 32 ≤ 140737488355328 := by omega
        have hMw2 : M < w2.heap.size := by omega
        have hq2 : q + 1 + j * 3 ^ d + 3 ^ d ≤ 1000000 := by
          have : j * 3 ^ d ≤ 1 * 3 ^ d := Nat.mul_le_mul_right _ (by omega)
          omega
        have HQ := hid (show q + 1 + j * 3 ^ d + 3 ^ d = q + 1 + (j + 1) * 3 ^ d by rw [Nat.succ_mul]; omega)
        have hRd := hR.rw (below_drew w2)
        have HIQ := hid (HIH.out hdd M _ _ hRd hq2)
        have HWD := hid (wrapN (d : Int) (by omega) (by omega))
        have hdw : (((d + 1 : Nat) : Int) - 1) = (d : Int) := by omega
        go_wp2_with fail
        have HS0 := hid (show ∀ w', Rw M w2 w' → (fun w' => w'.cell? ⟨w1.heap.size, 0, none⟩ = some (.int .i64 1) ∧ w'.cell? ⟨w1.heap.size, 1, none⟩ = some v) w' from fun w' h => ⟨h.cell y0 (by show w1.heap.size ≠ M; omega), h.cell y1 (by show w1.heap.size ≠ M; omega)⟩)
        refine regionL (s := 7) (S0 := (fun w' => w'.cell? ⟨w1.heap.size, 0, none⟩ = some (.int .i64 1) ∧ w'.cell? ⟨w1.heap.size, 1, none⟩ = some v)) (S1 := (fun _ => True)) (by kernel_rfl) (HS0.out _ (Rw.drew hMw2)) (trivial) (fun hS0 => ?_)
        refine takeL (i := 0) (v := ?vr1_1) rfl (by kernel_rfl) (by kernel_rfl) (by kernel_rfl) (by decide) (fun _ _ _ h => h) (Or.inl ⟨by rfl, ?hyr1_1⟩) (by assumption) ?_
        case hyr1_1 => (intro w hSw; (try dsimp only at hSw); go_simp; (try with_reducible rfl))
        try simp only [Act.put, List.setIfInBounds_toArray, List.set_cons_zero, List.set_cons_succ]
        refine takeL0 (i := 1) (v := ?vr1_2) rfl rfl (by kernel_rfl) (by kernel_rfl) (by kernel_rfl) (by decide) (by kernel_rfl) (by kernel_rfl) (fun _ _ _ h => h) (Or.inl ⟨by rfl, ?hyr1_2⟩) (by assumption) ?_
        case hyr1_2 => (intro w hSw; (try dsimp only at hSw); go_simp; (try with_reducible rfl))
        try simp only [Act.put, List.setIfInBounds_toArray, List.set_cons_zero, List.set_cons_succ]
        refine takeL (i := 2) (v := ?vr1_3) rfl (by kernel_rfl) (by kernel_rfl) (by kernel_rfl) (by decide) (fun _ _ _ h => h) (Or.inl ⟨by rfl, ?hyr1_3⟩) (by assumption) ?_
        case hyr1_3 => (intro w hSw; (try dsimp only at hSw); go_simp; (try with_reducible rfl))
        try simp only [Act.put, List.setIfInBounds_toArray, List.set_cons_zero, List.set_cons_succ]
        refine takeL (i := 3) (v := ?vr1_4) rfl (by kernel_rfl) (by kernel_rfl) (by kernel_rfl) (by decide) (fun _ _ _ h => h) (Or.inl ⟨by rfl, ?hyr1_4⟩) (by assumption) ?_
        case hyr1_4 => (intro w hSw; (try dsimp only at hSw); go_simp; (try with_reducible rfl))
        try simp only [Act.put, List.setIfInBounds_toArray, List.set_cons_zero, List.set_cons_succ]
        refine takeL (i := 4) (v := ?vr1_5) rfl (by kernel_rfl) (by kernel_rfl) (by kernel_rfl) (by decide) (fun _ _ _ h => h) (Or.inl ⟨by rfl, ?hyr1_5⟩) (by assumption) ?_
        case hyr1_5 => (intro w hSw; (try dsimp only at hSw); go_simp; (try with_reducible rfl))
        try simp only [Act.put, List.setIfInBounds_toArray, List.set_cons_zero, List.set_cons_succ]
        refine readyL (rs := [5]) (by kernel_rfl) (by simp) ?_
        refine AllReadyL.cons rfl (fun K hK => ?_) AllReadyL.nil
        go_simp
        rw [HWD.out]
        refine HIQ.out.mono ?_
        rintro e w3 ⟨t', v1, f', rfl, ht', hat', hf', hR3, hW3⟩
        obtain ⟨k2, n2, a2, cap2, rfl⟩ := hat'.agg
        have hWd := (Rw.drew hMw2).trans hW3
        obtain ⟨xs, ho1, ha1, hf1, hn1⟩ := hG.rw (by omega) hWd
        have ho2 := ho1
        rw [HLEN.out] at ho2
        have hO1 := hWd.block hO (by omega)
        have hM1' := lt_of_block hO1
        have hA3 : Below w3.heap.size w3 (w3.alloc (Obj.cells #[.int .i64 k2, .slice a2 n2 cap2] 25)) := (Below.refl _ _).alloc (Nat.le_refl _) _
        refine hK.out _ _ ?_ (fun hS1 => ?_)
        · exact ⟨trivial, fun _ => HS0.out _ hWd⟩
        clear hK K hS0
        try simp only [Act.put, List.setIfInBounds_toArray, List.set_cons_zero, List.set_cons_succ]
        refine readyL (rs := [6]) (by kernel_rfl) (by simp) ?_
        refine AllReadyL.cons rfl (fun K hK => ?_) AllReadyL.nil
        go_simp
        refine hK.out _ _ ?_ (fun hS2 => ?_)
        · exact ⟨trivial, fun _ => HS0.out _ (hWd.trans (Rw.of_below hA3 (by omega)))⟩
        clear hK K hS1
        try simp only [Act.put, List.setIfInBounds_toArray, List.set_cons_zero, List.set_cons_succ]
        refine readyL (rs := [7]) (by kernel_rfl) (by simp) ?_
        refine AllReadyL.cons rfl (fun K hK => ?_) AllReadyL.nil
        refine step_append_lies _ (by rfl) _ _ _ (by rfl) (w1.heap.size + 1) 25 i0 _ 2 32 Try.underElems hi0 hz0 hz1 hz2 rfl (by omega) v j xs (by rfl) (ho2.alloc _) ⟨w3.heap.size, 0, none⟩ 1 1 [.int .i64 k2, .slice a2 n2 cap2] (by rfl) (by rfl) (World.news_of_block (cs := #[.int .i64 k2, .slice a2 n2 cap2]) (t := 25) (fr := (0, 0)) (heap_alloc_new w3 _)) (by simp [Value.oneCell']) (by omega) hmx hby (by simp; omega) (w3.heap.size + 1) (by simp) ?_
        intro g cp w4 hown3 hgrow hat3 hlt3
        have hO3 := grow_keep hgrow ((Below.heap_alloc _ _ _ hM1').trans hO1) (own_ne ho2 (by omega))
        have z1 := (cell_of_block (o := 1) hO3)
        have z2 := (frozen_of_block (o := 1) hO3)
        refine hK.out _ _ ?_ (fun hS3 => ?_)
        · exact ⟨trivial, fun h => absurd (h.symm.trans (show _ = true by kernel_rfl)) (by decide)⟩
        clear hK K hS2
        try simp only [Act.put, List.setIfInBounds_toArray, List.set_cons_zero, List.set_cons_succ]
        refine takeL (i := 8) (v := ?vr1_6) rfl (by kernel_rfl) (by kernel_rfl) (by kernel_rfl) (by decide) (fun _ _ _ h => h) (Or.inl ⟨by rfl, ?hyr1_6⟩) (by assumption) ?_
        case hyr1_6 => (intro w hSw; (try dsimp only at hSw); go_simp; (try with_reducible rfl))
        try simp only [Act.put, List.setIfInBounds_toArray, List.set_cons_zero, List.set_cons_succ]
        refine readyL (rs := [9]) (by kernel_rfl) (by simp) ?_
        refine AllReadyL.cons rfl (fun K hK => ?_) AllReadyL.nil
        go_simp
        refine hK.out _ _ ?_ (fun hS4 => ?_)
        · exact ⟨trivial, fun h => absurd (h.symm.trans (show _ = true by kernel_rfl)) (by decide)⟩
        clear hK K hS3
        try simp only [Act.put, List.setIfInBounds_toArray, List.set_cons_zero, List.set_cons_succ]
        refine doneL (by kernel_rfl) ?_ _
        have hG3 := GrowT.step (w := w2) (w2 := w3.alloc (Obj.cells #[.int .i64 k2, .slice a2 n2 cap2] 25)) ha1 hf1 hn1 hG.block.1 hG.block.2 (by omega) hat' hf' ((Below.refl _ _).alloc (Nat.le_refl _) _) hgrow hown3 (by rw [HLEN.out]) (by simpa using hat3)
        have hw3 : Below w1.heap.size w3 w4 := ((Below.refl _ _).alloc (by omega) _).grown hgrow (by simp; omega) (fun b hb => by have := (ho2.lt b hb).1; omega)
        have HRN := hid (fun (o : Nat) (u : Value) => hR3.below1 ((hw3.setCell (p := ⟨w1.heap.size, o, none⟩) (Nat.le_refl _) u).mono (by omega)))
        have HWN := hid (fun (o : Nat) (u : Value) => (hW.trans hWd).tail (hw3.setCell (p := ⟨w1.heap.size, o, none⟩) (Nat.le_refl _) u) hM1)
        have HO3 := hid hO3
        have HG3 := hid (hG3.setCell (p := ⟨w1.heap.size, 1, none⟩) (by simp) (.slice (some ⟨g, 0, none⟩) (j + 1) cp))
        clear hO1 hO ha1 hf1 hn1 hat' hf' hgrow hown3 hat3 hlt3 ho1 ho2 hWd hw3 hG z1 z2 y0 y1 hR hR3 hW hW3 hRd hG3 hO3 hA3
        go_wp2_with fail
        refine ⟨⟨j + 1, _, _, ds ++ [t'], by omega, by go_num, by simp [HLEN.out], fun t ht => ?_, by rw [← HQ.out]; exact HRN.out _ _, HWN.out _ _, ?_, HG3.out⟩, by simp [intOf]; omega⟩
        · rcases List.mem_append.1 ht with ht | ht
          · exact HALL.out t ht
          · rw [List.mem_singleton.1 ht]; exact ht'
        · rw [heap_setCell_at HO3.out]
          rfl
      · obtain rfl : j = nk := by omega
        obtain ⟨a', cap', rfl⟩ := hG.shape
        obtain ⟨fp', hs', hf'⟩ := hG.done (by unfold maxLen; omega)
        have hEw := hW.block HER.out (by omega)
        have r0 : w2.cell? ⟨w.heap.size, 0, none⟩ = some (.int .i64 0) := by rw [cell_of_block hEw]; rfl
        have r1 : w2.cell? ⟨w.heap.size, 1, none⟩ = some (.slice none 0 0) := by rw [cell_of_block hEw]; rfl
        have rz : ∀ o, w2.frozen? ⟨w.heap.size, o, none⟩ = false := fun o => frozen_of_block hEw
        have hab := ((Above.refl (w1.heap.size + 1) w2).setCell (p := ⟨w.heap.size, 0, none⟩) (by show w.heap.size < w1.heap.size + 1; omega) (.int .i64 1)).setCell (p := ⟨w.heap.size, 1, none⟩) (by show w.heap.size < w1.heap.size + 1; omega) (.slice a' ds.length cap')
        have hbb := ((Below.refl w.heap.size w2).setCell (p := ⟨w.heap.size, 0, none⟩) (Nat.le_refl _) (.int .i64 1)).setCell (p := ⟨w.heap.size, 1, none⟩) (Nat.le_refl _) (.slice a' ds.length cap')
        have hst := hs'.above hab (fun b hb => hf'.ge b hb)
        have hft := (hf'.above hab (Nat.le_refl _)).mono (B' := w.heap.size) (by omega)
        have hRF := (hR.below1 (hbb.mono (by omega))).mono (q' := q + 3 ^ (d + 1)) (by
          have : j * 3 ^ d ≤ 2 * 3 ^ d := Nat.mul_le_mul_right _ (by omega)
          have h3 : j = 0 ∨ j = 2 := by omega
          rcases h3 with rfl | rfl
          · omega
          · omega)
        have hWF := ((HW1.out.trans hW).tail hbb hMw)
        have hshp := shp_make HNK.out hdl HALL.out
        clear hs' hG hO hR hW hEw hab hbb hdl HALL
        go_wp2_with fail
        exact bodyPost_ret (v := .agg #[.int .i64 1, .slice a' ds.length cap']) (by simp [results, Try.results91, go_sem, r0, r1]) rfl ⟨_, _, fp', rfl, hshp, Ty.at_mk.2 ⟨_, rfl, hst⟩, hft, hRF, hWF⟩
  by_cases hd0 : d = 0
  · have hk4 : ¬ k0 ≥ 4 := by omega
    have hd2 : ((d + 1 : Nat) : Int) < 2 := by omega
    have hd3 : (d : Int) + 1 < 2 := by omega
    clear hd0
    obtain ⟨nk, hnk, hn2, hn4, hn02⟩ := kidsOf_2 (k := k0) (by omega)
    have HNK := hid hnk
    have HND := hid (show nk = 2 → 1 ≤ d from fun e => by have h4 := hn4 e; omega)
    have hMw1 := hR1.lt
    have hM1 : M < w1.heap.size := hMw1
    have HR1 := hid hR1
    have HW1 := hid (hW0.trans hW1)
    have hEr := hW1.block hE0 (by omega)
    have HER := hid hEr
    have hw1s : w.heap.size + 1 + 1 ≤ w1.heap.size := by have := hW1.size; simp at this; exact this
    have h2d := pow_pos2 d
    have hpw : 3 ^ (d + 1) = 3 * 3 ^ d := by rw [Nat.pow_succ]; omega
    clear hR1 hW1 hnk hEr hn4
    go_wp2_with fail
    go_loopw [7] (fun i wr => ∃ (j : Nat) (v : Value) (f : List Nat) (ds : List Ty), j ≤ nk ∧ i = .int .i64 j ∧ ds.length = j ∧ (∀ t ∈ ds, shp d t = true) ∧ RdAt M (q + 1 + j * 3 ^ d) wr ∧ Rw M w1 wr ∧ wr.heap[w1.heap.size]? = some (.cells #[.int .i64 k0, v] 25 (0, 0)) ∧ GrowT (w1.heap.size + 1) ds v f wr)
      (fun i _ => nk - (intOf i).toNat)
    case atStart => exact ⟨0, .slice none 0 0, [], [], Nat.zero_le _, rfl, rfl, by simp, by simpa using HR1.out.rw ((Below.refl _ _).alloc (Nat.le_refl _) _), Rw.of_below ((Below.refl _ _).alloc (Nat.le_refl _) _) hM1, alloc_new _ _, GrowT.zero _ _⟩
    case round =>
      obtain ⟨j, v, f, ds, hj, rfl, hdl, hall, hR, hW, hO, hG⟩ := hrel
      have y0 : wr.cell? ⟨w1.heap.size, 0, none⟩ = some (.int .i64 k0) := by rw [cell_of_block hO]; rfl
      have y1 : wr.cell? ⟨w1.heap.size, 1, none⟩ = some v := by rw [cell_of_block hO]; rfl
      have HALL := hid hall
      clear hall
      go_wp2_with fail
      refine (l1Kids_any _ _).mono ?_
      rintro e w2 ⟨rfl, rfl⟩
      rw [HNK.out]
      by_cases hlk : j < nk
      · have hdd : 1 ≤ d := HND.out (by omega)
        have hM : w1.heap.size < w2.heap.size := lt_of_block hO
        have HLEN := hid hdl
        have hmx : j + 1 ≤ maxLen := by unfold maxLen; omega
        have hby : (j + 1) * 32 ≤ 140737488355328 := by omega
        have hMw2 : M < w2.heap.size := by omega
        have hq2 : q + 1 + j * 3 ^ d + 3 ^ d ≤ 1000000 := by
          have : j * 3 ^ d ≤ 1 * 3 ^ d := Nat.mul_le_mul_right _ (by omega)
          omega
        have HQ := hid (show q + 1 + j * 3 ^ d + 3 ^ d = q + 1 + (j + 1) * 3 ^ d by rw [Nat.succ_mul]; omega)
        have hRd := hR.rw (below_drew w2)
        have HIQ := hid (HIH.out hdd M _ _ hRd hq2)
        have HWD := hid (wrapN (d : Int) (by omega) (by omega))
        have hdw : (((d + 1 : Nat) : Int) - 1) = (d : Int) := by omega
        go_wp2_with fail
        have HS0 := hid (show ∀ w', Rw M w2 w' → (fun w' => w'.cell? ⟨w1.heap.size, 0, none⟩ = some (.int .i64 k0) ∧ w'.cell? ⟨w1.heap.size, 1, none⟩ = some v) w' from fun w' h => ⟨h.cell y0 (by show w1.heap.size ≠ M; omega), h.cell y1 (by show w1.heap.size ≠ M; omega)⟩)
        refine regionL (s := 7) (S0 := (fun w' => w'.cell? ⟨w1.heap.size, 0, none⟩ = some (.int .i64 k0) ∧ w'.cell? ⟨w1.heap.size, 1, none⟩ = some v)) (S1 := (fun _ => True)) (by kernel_rfl) (HS0.out _ (Rw.drew hMw2)) (trivial) (fun hS0 => ?_)
        refine takeL (i := 0) (v := ?vr2_1) rfl (by kernel_rfl) (by kernel_rfl) (by kernel_rfl) (by decide) (fun _ _ _ h => h) (Or.inl ⟨by rfl, ?hyr2_1⟩) (by assumption) ?_
        case hyr2_1 => (intro w hSw; (try dsimp only at hSw); go_simp; (try with_reducible rfl))
        try simp only [Act.put, List.setIfInBounds_toArray, List.set_cons_zero, List.set_cons_succ]
        refine takeL0 (i := 1) (v := ?vr2_2) rfl rfl (by kernel_rfl) (by kernel_rfl) (by kernel_rfl) (by decide) (by kernel_rfl) (by kernel_rfl) (fun _ _ _ h => h) (Or.inl ⟨by rfl, ?hyr2_2⟩) (by assumption) ?_
        case hyr2_2 => (intro w hSw; (try dsimp only at hSw); go_simp; (try with_reducible rfl))
        try simp only [Act.put, List.setIfInBounds_toArray, List.set_cons_zero, List.set_cons_succ]
        refine takeL (i := 2) (v := ?vr2_3) rfl (by kernel_rfl) (by kernel_rfl) (by kernel_rfl) (by decide) (fun _ _ _ h => h) (Or.inl ⟨by rfl, ?hyr2_3⟩) (by assumption) ?_
        case hyr2_3 => (intro w hSw; (try dsimp only at hSw); go_simp; (try with_reducible rfl))
        try simp only [Act.put, List.setIfInBounds_toArray, List.set_cons_zero, List.set_cons_succ]
        refine takeL (i := 3) (v := ?vr2_4) rfl (by kernel_rfl) (by kernel_rfl) (by kernel_rfl) (by decide) (fun _ _ _ h => h) (Or.inl ⟨by rfl, ?hyr2_4⟩) (by assumption) ?_
        case hyr2_4 => (intro w hSw; (try dsimp only at hSw); go_simp; (try with_reducible rfl))
        try simp only [Act.put, List.setIfInBounds_toArray, List.set_cons_zero, List.set_cons_succ]
        refine takeL (i := 4) (v := ?vr2_5) rfl (by kernel_rfl) (by kernel_rfl) (by kernel_rfl) (by decide) (fun _ _ _ h => h) (Or.inl ⟨by rfl, ?hyr2_5⟩) (by assumption) ?_
        case hyr2_5 => (intro w hSw; (try dsimp only at hSw); go_simp; (try with_reducible rfl))
        try simp only [Act.put, List.setIfInBounds_toArray, List.set_cons_zero, List.set_cons_succ]
        refine readyL (rs := [5]) (by kernel_rfl) (by simp) ?_
        refine AllReadyL.cons rfl (fun K hK => ?_) AllReadyL.nil
        go_simp
        rw [HWD.out]
        refine HIQ.out.mono ?_
        rintro e w3 ⟨t', v1, f', rfl, ht', hat', hf', hR3, hW3⟩
        obtain ⟨k2, n2, a2, cap2, rfl⟩ := hat'.agg
        have hWd := (Rw.drew hMw2).trans hW3
        obtain ⟨xs, ho1, ha1, hf1, hn1⟩ := hG.rw (by omega) hWd
        have ho2 := ho1
        rw [HLEN.out] at ho2
        have hO1 := hWd.block hO (by omega)
        have hM1' := lt_of_block hO1
        have hA3 : Below w3.heap.size w3 (w3.alloc (Obj.cells #[.int .i64 k2, .slice a2 n2 cap2] 25)) := (Below.refl _ _).alloc (Nat.le_refl _) _
        refine hK.out _ _ ?_ (fun hS1 => ?_)
        · exact ⟨trivial, fun _ => HS0.out _ hWd⟩
        clear hK K hS0
        try simp only [Act.put, List.setIfInBounds_toArray, List.set_cons_zero, List.set_cons_succ]
        refine readyL (rs := [6]) (by kernel_rfl) (by simp) ?_
        refine AllReadyL.cons rfl (fun K hK => ?_) AllReadyL.nil
        go_simp
        refine hK.out _ _ ?_ (fun hS2 => ?_)
        · exact ⟨trivial, fun _ => HS0.out _ (hWd.trans (Rw.of_below hA3 (by omega)))⟩
        clear hK K hS1
        try simp only [Act.put, List.setIfInBounds_toArray, List.set_cons_zero, List.set_cons_succ]
        refine readyL (rs := [7]) (by kernel_rfl) (by simp) ?_
        refine AllReadyL.cons rfl (fun K hK => ?_) AllReadyL.nil
        refine step_append_lies _ (by rfl) _ _ _ (by rfl) (w1.heap.size + 1) 25 i0 _ 2 32 Try.underElems hi0 hz0 hz1 hz2 rfl (by omega) v j xs (by rfl) (ho2.alloc _) ⟨w3.heap.size, 0, none⟩ 1 1 [.int .i64 k2, .slice a2 n2 cap2] (by rfl) (by rfl) (World.news_of_block (cs := #[.int .i64 k2, .slice a2 n2 cap2]) (t := 25) (fr := (0, 0)) (heap_alloc_new w3 _)) (by simp [Value.oneCell']) (by omega) hmx hby (by simp; omega) (w3.heap.size + 1) (by simp) ?_
        intro g cp w4 hown3 hgrow hat3 hlt3
        have hO3 := grow_keep hgrow ((Below.heap_alloc _ _ _ hM1').trans hO1) (own_ne ho2 (by omega))
        have z1 := (cell_of_block (o := 1) hO3)
        have z2 := (frozen_of_block (o := 1) hO3)
        refine hK.out _ _ ?_ (fun hS3 => ?_)
        · exact ⟨trivial, fun h => absurd (h.symm.trans (show _ = true by kernel_rfl)) (by decide)⟩
        clear hK K hS2
        try simp only [Act.put, List.setIfInBounds_toArray, List.set_cons_zero, List.set_cons_succ]
        refine takeL (i := 8) (v := ?vr2_6) rfl (by kernel_rfl) (by kernel_rfl) (by kernel_rfl) (by decide) (fun _ _ _ h => h) (Or.inl ⟨by rfl, ?hyr2_6⟩) (by assumption) ?_
        case hyr2_6 => (intro w hSw; (try dsimp only at hSw); go_simp; (try with_reducible rfl))
        try simp only [Act.put, List.setIfInBounds_toArray, List.set_cons_zero, List.set_cons_succ]
        refine readyL (rs := [9]) (by kernel_rfl) (by simp) ?_
        refine AllReadyL.cons rfl (fun K hK => ?_) AllReadyL.nil
        go_simp
        refine hK.out _ _ ?_ (fun hS4 => ?_)
        · exact ⟨trivial, fun h => absurd (h.symm.trans (show _ = true by kernel_rfl)) (by decide)⟩
        clear hK K hS3
        try simp only [Act.put, List.setIfInBounds_toArray, List.set_cons_zero, List.set_cons_succ]
        refine doneL (by kernel_rfl) ?_ _
        have hG3 := GrowT.step (w := w2) (w2 := w3.alloc (Obj.cells #[.int .i64 k2, .slice a2 n2 cap2] 25)) ha1 hf1 hn1 hG.block.1 hG.block.2 (by omega) hat' hf' ((Below.refl _ _).alloc (Nat.le_refl _) _) hgrow hown3 (by rw [HLEN.out]) (by simpa using hat3)
        have hw3 : Below w1.heap.size w3 w4 := ((Below.refl _ _).alloc (by omega) _).grown hgrow (by simp; omega) (fun b hb => by have := (ho2.lt b hb).1; omega)
        have HRN := hid (fun (o : Nat) (u : Value) => hR3.below1 ((hw3.setCell (p := ⟨w1.heap.size, o, none⟩) (Nat.le_refl _) u).mono (by omega)))
        have HWN := hid (fun (o : Nat) (u : Value) => (hW.trans hWd).tail (hw3.setCell (p := ⟨w1.heap.size, o, none⟩) (Nat.le_refl _) u) hM1)
        have HO3 := hid hO3
        have HG3 := hid (hG3.setCell (p := ⟨w1.heap.size, 1, none⟩) (by simp) (.slice (some ⟨g, 0, none⟩) (j + 1) cp))
        clear hO1 hO ha1 hf1 hn1 hat' hf' hgrow hown3 hat3 hlt3 ho1 ho2 hWd hw3 hG z1 z2 y0 y1 hR hR3 hW hW3 hRd hG3 hO3 hA3
        go_wp2_with fail
        refine ⟨⟨j + 1, _, _, ds ++ [t'], by omega, by go_num, by simp [HLEN.out], fun t ht => ?_, by rw [← HQ.out]; exact HRN.out _ _, HWN.out _ _, ?_, HG3.out⟩, by simp [intOf]; omega⟩
        · rcases List.mem_append.1 ht with ht | ht
          · exact HALL.out t ht
          · rw [List.mem_singleton.1 ht]; exact ht'
        · rw [heap_setCell_at HO3.out]
          rfl
      · obtain rfl : j = nk := by omega
        obtain ⟨a', cap', rfl⟩ := hG.shape
        obtain ⟨fp', hs', hf'⟩ := hG.done (by unfold maxLen; omega)
        have hEw := hW.block HER.out (by omega)
        have r0 : w2.cell? ⟨w.heap.size, 0, none⟩ = some (.int .i64 0) := by rw [cell_of_block hEw]; rfl
        have r1 : w2.cell? ⟨w.heap.size, 1, none⟩ = some (.slice none 0 0) := by rw [cell_of_block hEw]; rfl
        have rz : ∀ o, w2.frozen? ⟨w.heap.size, o, none⟩ = false := fun o => frozen_of_block hEw
        have hab := ((Above.refl (w1.heap.size + 1) w2).setCell (p := ⟨w.heap.size, 0, none⟩) (by show w.heap.size < w1.heap.size + 1; omega) (.int .i64 k0)).setCell (p := ⟨w.heap.size, 1, none⟩) (by show w.heap.size < w1.heap.size + 1; omega) (.slice a' ds.length cap')
        have hbb := ((Below.refl w.heap.size w2).setCell (p := ⟨w.heap.size, 0, none⟩) (Nat.le_refl _) (.int .i64 k0)).setCell (p := ⟨w.heap.size, 1, none⟩) (Nat.le_refl _) (.slice a' ds.length cap')
        have hst := hs'.above hab (fun b hb => hf'.ge b hb)
        have hft := (hf'.above hab (Nat.le_refl _)).mono (B' := w.heap.size) (by omega)
        have hRF := (hR.below1 (hbb.mono (by omega))).mono (q' := q + 3 ^ (d + 1)) (by
          have : j * 3 ^ d ≤ 2 * 3 ^ d := Nat.mul_le_mul_right _ (by omega)
          have h3 : j = 0 ∨ j = 2 := by omega
          rcases h3 with rfl | rfl
          · omega
          · omega)
        have hWF := ((HW1.out.trans hW).tail hbb hMw)
        have hshp := shp_make HNK.out hdl HALL.out
        clear hs' hG hO hR hW hEw hab hbb hdl HALL
        go_wp2_with fail
        exact bodyPost_ret (v := .agg #[.int .i64 k0, .slice a' ds.length cap']) (by simp [results, Try.results91, go_sem, r0, r1]) rfl ⟨_, _, fp', rfl, hshp, Ty.at_mk.2 ⟨_, rfl, hst⟩, hft, hRF, hWF⟩
  · have hd2 : ¬ ((d + 1 : Nat) : Int) < 2 := by omega
    have hd3 : ¬ (d : Int) + 1 < 2 := by omega
    obtain ⟨nk, hnk, hn2, hn4, hn02⟩ := kidsOf_2 (k := k0) (by omega)
    have HNK := hid hnk
    have HND := hid (show nk = 2 → 1 ≤ d from fun e => by have h4 := hn4 e; omega)
    have hMw1 := hR1.lt
    have hM1 : M < w1.heap.size := hMw1
    have HR1 := hid hR1
    have HW1 := hid (hW0.trans hW1)
    have hEr := hW1.block hE0 (by omega)
    have HER := hid hEr
    have hw1s : w.heap.size + 1 + 1 ≤ w1.heap.size := by have := hW1.size; simp at this; exact this
    have h2d := pow_pos2 d
    have hpw : 3 ^ (d + 1) = 3 * 3 ^ d := by rw [Nat.pow_succ]; omega
    clear hR1 hW1 hnk hEr hn4
    go_wp2_with fail
    go_loopw [7] (fun i wr => ∃ (j : Nat) (v : Value) (f : List Nat) (ds : List Ty), j ≤ nk ∧ i = .int .i64 j ∧ ds.length = j ∧ (∀ t ∈ ds, shp d t = true) ∧ RdAt M (q + 1 + j * 3 ^ d) wr ∧ Rw M w1 wr ∧ wr.heap[w1.heap.size]? = some (.cells #[.int .i64 k0, v] 25 (0, 0)) ∧ GrowT (w1.heap.size + 1) ds v f wr)
      (fun i _ => nk - (intOf i).toNat)
    case atStart => exact ⟨0, .slice none 0 0, [], [], Nat.zero_le _, rfl, rfl, by simp, by simpa using HR1.out.rw ((Below.refl _ _).alloc (Nat.le_refl _) _), Rw.of_below ((Below.refl _ _).alloc (Nat.le_refl _) _) hM1, alloc_new _ _, GrowT.zero _ _⟩
    case round =>
      obtain ⟨j, v, f, ds, hj, rfl, hdl, hall, hR, hW, hO, hG⟩ := hrel
      have y0 : wr.cell? ⟨w1.heap.size, 0, none⟩ = some (.int .i64 k0) := by rw [cell_of_block hO]; rfl
      have y1 : wr.cell? ⟨w1.heap.size, 1, none⟩ = some v := by rw [cell_of_block hO]; rfl
      have HALL := hid hall
      clear hall
      go_wp2_with fail
      refine (l1Kids_any _ _).mono ?_
      rintro e w2 ⟨rfl, rfl⟩
      rw [HNK.out]
      by_cases hlk : j < nk
      · have hdd : 1 ≤ d := HND.out (by omega)
        have hM : w1.heap.size < w2.heap.size := lt_of_block hO
        have HLEN := hid hdl
        have hmx : j + 1 ≤ maxLen := by unfold maxLen; omega
        have hby : (j + 1) * 32 ≤ 140737488355328 := by omega
        have hMw2 : M < w2.heap.size := by omega
        have hq2 : q + 1 + j * 3 ^ d + 3 ^ d ≤ 1000000 := by
          have : j * 3 ^ d ≤ 1 * 3 ^ d := Nat.mul_le_mul_right _ (by omega)
          omega
        have HQ := hid (show q + 1 + j * 3 ^ d + 3 ^ d = q + 1 + (j + 1) * 3 ^ d by rw [Nat.succ_mul]; omega)
        have hRd := hR.rw (below_drew w2)
        have HIQ := hid (HIH.out hdd M _ _ hRd hq2)
        have HWD := hid (wrapN (d : Int) (by omega) (by omega))
        have hdw : (((d + 1 : Nat) : Int) - 1) = (d : Int) := by omega
        go_wp2_with fail
        have HS0 := hid (show ∀ w', Rw M w2 w' → (fun w' => w'.cell? ⟨w1.heap.size, 0, none⟩ = some (.int .i64 k0) ∧ w'.cell? ⟨w1.heap.size, 1, none⟩ = some v) w' from fun w' h => ⟨h.cell y0 (by show w1.heap.size ≠ M; omega), h.cell y1 (by show w1.heap.size ≠ M; omega)⟩)
        refine regionL (s := 7) (S0 := (fun w' => w'.cell? ⟨w1.heap.size, 0, none⟩ = some (.int .i64 k0) ∧ w'.cell? ⟨w1.heap.size, 1, none⟩ = some v)) (S1 := (fun _ => True)) (by kernel_rfl) (HS0.out _ (Rw.drew hMw2)) (trivial) (fun hS0 => ?_)
        refine takeL (i := 0) (v := ?vr3_1) rfl (by kernel_rfl) (by kernel_rfl) (by kernel_rfl) (by decide) (fun _ _ _ h => h) (Or.inl ⟨by rfl, ?hyr3_1⟩) (by assumption) ?_
        case hyr3_1 => (intro w hSw; (try dsimp only at hSw); go_simp; (try with_reducible rfl))
        try simp only [Act.put, List.setIfInBounds_toArray, List.set_cons_zero, List.set_cons_succ]
        refine takeL0 (i := 1) (v := ?vr3_2) rfl rfl (by kernel_rfl) (by kernel_rfl) (by kernel_rfl) (by decide) (by kernel_rfl) (by kernel_rfl) (fun _ _ _ h => h) (Or.inl ⟨by rfl, ?hyr3_2⟩) (by assumption) ?_
        case hyr3_2 => (intro w hSw; (try dsimp only at hSw); go_simp; (try with_reducible rfl))
        try simp only [Act.put, List.setIfInBounds_toArray, List.set_cons_zero, List.set_cons_succ]
        refine takeL (i := 2) (v := ?vr3_3) rfl (by kernel_rfl) (by kernel_rfl) (by kernel_rfl) (by decide) (fun _ _ _ h => h) (Or.inl ⟨by rfl, ?hyr3_3⟩) (by assumption) ?_
        case hyr3_3 => (intro w hSw; (try dsimp only at hSw); go_simp; (try with_reducible rfl))
        try simp only [Act.put, List.setIfInBounds_toArray, List.set_cons_zero, List.set_cons_succ]
        refine takeL (i := 3) (v := ?vr3_4) rfl (by kernel_rfl) (by kernel_rfl) (by kernel_rfl) (by decide) (fun _ _ _ h => h) (Or.inl ⟨by rfl, ?hyr3_4⟩) (by assumption) ?_
        case hyr3_4 => (intro w hSw; (try dsimp only at hSw); go_simp; (try with_reducible rfl))
        try simp only [Act.put, List.setIfInBounds_toArray, List.set_cons_zero, List.set_cons_succ]
        refine takeL (i := 4) (v := ?vr3_5) rfl (by kernel_rfl) (by kernel_rfl) (by kernel_rfl) (by decide) (fun _ _ _ h => h) (Or.inl ⟨by rfl, ?hyr3_5⟩) (by assumption) ?_
        case hyr3_5 => (intro w hSw; (try dsimp only at hSw); go_simp; (try with_reducible rfl))
        try simp only [Act.put, List.setIfInBounds_toArray, List.set_cons_zero, List.set_cons_succ]
        refine readyL (rs := [5]) (by kernel_rfl) (by simp) ?_
        refine AllReadyL.cons rfl (fun K hK => ?_) AllReadyL.nil
        go_simp
        rw [HWD.out]
        refine HIQ.out.mono ?_
        rintro e w3 ⟨t', v1, f', rfl, ht', hat', hf', hR3, hW3⟩
        obtain ⟨k2, n2, a2, cap2, rfl⟩ := hat'.agg
        have hWd := (Rw.drew hMw2).trans hW3
        obtain ⟨xs, ho1, ha1, hf1, hn1⟩ := hG.rw (by omega) hWd
        have ho2 := ho1
        rw [HLEN.out] at ho2
        have hO1 := hWd.block hO (by omega)
        have hM1' := lt_of_block hO1
        have hA3 : Below w3.heap.size w3 (w3.alloc (Obj.cells #[.int .i64 k2, .slice a2 n2 cap2] 25)) := (Below.refl _ _).alloc (Nat.le_refl _) _
        refine hK.out _ _ ?_ (fun hS1 => ?_)
        · exact ⟨trivial, fun _ => HS0.out _ hWd⟩
        clear hK K hS0
        try simp only [Act.put, List.setIfInBounds_toArray, List.set_cons_zero, List.set_cons_succ]
        refine readyL (rs := [6]) (by kernel_rfl) (by simp) ?_
        refine AllReadyL.cons rfl (fun K hK => ?_) AllReadyL.nil
        go_simp
        refine hK.out _ _ ?_ (fun hS2 => ?_)
        · exact ⟨trivial, fun _ => HS0.out _ (hWd.trans (Rw.of_below hA3 (by omega)))⟩
        clear hK K hS1
        try simp only [Act.put, List.setIfInBounds_toArray, List.set_cons_zero, List.set_cons_succ]
        refine readyL (rs := [7]) (by kernel_rfl) (by simp) ?_
        refine AllReadyL.cons rfl (fun K hK => ?_) AllReadyL.nil
        refine step_append_lies _ (by rfl) _ _ _ (by rfl) (w1.heap.size + 1) 25 i0 _ 2 32 Try.underElems hi0 hz0 hz1 hz2 rfl (by omega) v j xs (by rfl) (ho2.alloc _) ⟨w3.heap.size, 0, none⟩ 1 1 [.int .i64 k2, .slice a2 n2 cap2] (by rfl) (by rfl) (World.news_of_block (cs := #[.int .i64 k2, .slice a2 n2 cap2]) (t := 25) (fr := (0, 0)) (heap_alloc_new w3 _)) (by simp [Value.oneCell']) (by omega) hmx hby (by simp; omega) (w3.heap.size + 1) (by simp) ?_
        intro g cp w4 hown3 hgrow hat3 hlt3
        have hO3 := grow_keep hgrow ((Below.heap_alloc _ _ _ hM1').trans hO1) (own_ne ho2 (by omega))
        have z1 := (cell_of_block (o := 1) hO3)
        have z2 := (frozen_of_block (o := 1) hO3)
        refine hK.out _ _ ?_ (fun hS3 => ?_)
        · exact ⟨trivial, fun h => absurd (h.symm.trans (show _ = true by kernel_rfl)) (by decide)⟩
        clear hK K hS2
        try simp only [Act.put, List.setIfInBounds_toArray, List.set_cons_zero, List.set_cons_succ]
        refine takeL (i := 8) (v := ?vr3_6) rfl (by kernel_rfl) (by kernel_rfl) (by kernel_rfl) (by decide) (fun _ _ _ h => h) (Or.inl ⟨by rfl, ?hyr3_6⟩) (by assumption) ?_
        case hyr3_6 => (intro w hSw; (try dsimp only at hSw); go_simp; (try with_reducible rfl))
        try simp only [Act.put, List.setIfInBounds_toArray, List.set_cons_zero, List.set_cons_succ]
        refine readyL (rs := [9]) (by kernel_rfl) (by simp) ?_
        refine AllReadyL.cons rfl (fun K hK => ?_) AllReadyL.nil
        go_simp
        refine hK.out _ _ ?_ (fun hS4 => ?_)
        · exact ⟨trivial, fun h => absurd (h.symm.trans (show _ = true by kernel_rfl)) (by decide)⟩
        clear hK K hS3
        try simp only [Act.put, List.setIfInBounds_toArray, List.set_cons_zero, List.set_cons_succ]
        refine doneL (by kernel_rfl) ?_ _
        have hG3 := GrowT.step (w := w2) (w2 := w3.alloc (Obj.cells #[.int .i64 k2, .slice a2 n2 cap2] 25)) ha1 hf1 hn1 hG.block.1 hG.block.2 (by omega) hat' hf' ((Below.refl _ _).alloc (Nat.le_refl _) _) hgrow hown3 (by rw [HLEN.out]) (by simpa using hat3)
        have hw3 : Below w1.heap.size w3 w4 := ((Below.refl _ _).alloc (by omega) _).grown hgrow (by simp; omega) (fun b hb => by have := (ho2.lt b hb).1; omega)
        have HRN := hid (fun (o : Nat) (u : Value) => hR3.below1 ((hw3.setCell (p := ⟨w1.heap.size, o, none⟩) (Nat.le_refl _) u).mono (by omega)))
        have HWN := hid (fun (o : Nat) (u : Value) => (hW.trans hWd).tail (hw3.setCell (p := ⟨w1.heap.size, o, none⟩) (Nat.le_refl _) u) hM1)
        have HO3 := hid hO3
        have HG3 := hid (hG3.setCell (p := ⟨w1.heap.size, 1, none⟩) (by simp) (.slice (some ⟨g, 0, none⟩) (j + 1) cp))
        clear hO1 hO ha1 hf1 hn1 hat' hf' hgrow hown3 hat3 hlt3 ho1 ho2 hWd hw3 hG z1 z2 y0 y1 hR hR3 hW hW3 hRd hG3 hO3 hA3
        go_wp2_with fail
        refine ⟨⟨j + 1, _, _, ds ++ [t'], by omega, by go_num, by simp [HLEN.out], fun t ht => ?_, by rw [← HQ.out]; exact HRN.out _ _, HWN.out _ _, ?_, HG3.out⟩, by simp [intOf]; omega⟩
        · rcases List.mem_append.1 ht with ht | ht
          · exact HALL.out t ht
          · rw [List.mem_singleton.1 ht]; exact ht'
        · rw [heap_setCell_at HO3.out]
          rfl
      · obtain rfl : j = nk := by omega
        obtain ⟨a', cap', rfl⟩ := hG.shape
        obtain ⟨fp', hs', hf'⟩ := hG.done (by unfold maxLen; omega)
        have hEw := hW.block HER.out (by omega)
        have r0 : w2.cell? ⟨w.heap.size, 0, none⟩ = some (.int .i64 0) := by rw [cell_of_block hEw]; rfl
        have r1 : w2.cell? ⟨w.heap.size, 1, none⟩ = some (.slice none 0 0) := by rw [cell_of_block hEw]; rfl
        have rz : ∀ o, w2.frozen? ⟨w.heap.size, o, none⟩ = false := fun o => frozen_of_block hEw
        have hab := ((Above.refl (w1.heap.size + 1) w2).setCell (p := ⟨w.heap.size, 0, none⟩) (by show w.heap.size < w1.heap.size + 1; omega) (.int .i64 k0)).setCell (p := ⟨w.heap.size, 1, none⟩) (by show w.heap.size < w1.heap.size + 1; omega) (.slice a' ds.length cap')
        have hbb := ((Below.refl w.heap.size w2).setCell (p := ⟨w.heap.size, 0, none⟩) (Nat.le_refl _) (.int .i64 k0)).setCell (p := ⟨w.heap.size, 1, none⟩) (Nat.le_refl _) (.slice a' ds.length cap')
        have hst := hs'.above hab (fun b hb => hf'.ge b hb)
        have hft := (hf'.above hab (Nat.le_refl _)).mono (B' := w.heap.size) (by omega)
        have hRF := (hR.below1 (hbb.mono (by omega))).mono (q' := q + 3 ^ (d + 1)) (by
          have : j * 3 ^ d ≤ 2 * 3 ^ d := Nat.mul_le_mul_right _ (by omega)
          have h3 : j = 0 ∨ j = 2 := by omega
          rcases h3 with rfl | rfl
          · omega
          · omega)
        have hWF := ((HW1.out.trans hW).tail hbb hMw)
        have hshp := shp_make HNK.out hdl HALL.out
        clear hs' hG hO hR hW hEw hab hbb hdl HALL
        go_wp2_with fail
        exact bodyPost_ret (v := .agg #[.int .i64 k0, .slice a' ds.length cap']) (by simp [results, Try.results91, go_sem, r0, r1]) rfl ⟨_, _, fp', rfl, hshp, Ty.at_mk.2 ⟨_, rfl, hst⟩, hft, hRF, hWF⟩

theorem l1Draw_any : ∀ d : Nat, 1 ≤ d → d ≤ 4 → DwC d
  | 0, h, _ => absurd h (by omega)
  | d + 1, _, h => l1Draw_of d (by omega) (fun hd => l1Draw_any d hd (by omega))

end Go.Proofs.Ytolhfcpmhhhjpaa

/- Draws: l1Blur. -/
import Derived.Deep.RegionLaw
import Derived.Test.YtolhfcpmhhhjpaaSDr3
import Derived.Test.YtolhfcpmhhhjpaaSG1
namespace Go.Proofs.Ytolhfcpmhhhjpaa
open Go.RowKit

def BlC (t : Ty) : Prop := ∀ (M q : Nat) (v : Value) (fp : List Nat) (w : World), RdAt M q w → q + 100 * (t.cnt + 1) ≤ 1000000 → t.At w v fp → (∀ b ∈ fp, b ≠ M) → Calls Try.prog 72 #[.pointer (some ⟨M, 0, none⟩), v] w (DrawX M (q + 100 * (t.cnt + 1)) w (fun u => u.cnt ≤ t.cnt))

theorem cntL_app : ∀ (a b : List Ty), cntL (a ++ b) = cntL a + cntL b
  | [], b => by simp [cntL]
  | t :: a, b => by simp only [List.cons_append, cntL, cntL_app a b]; omega

theorem cntL_take_le : ∀ (ts : List Ty) (j : Nat), cntL (ts.take j) ≤ cntL ts
  | [], j => by simp
  | t :: ts, 0 => by simp [cntL]
  | t :: ts, j + 1 => by have := cntL_take_le ts j; simp only [List.take_succ_cons, cntL]; omega

theorem SlAt.in_fp {w : World} {ts : List Ty} {b o n cap : Nat} {fp : List Nat} (h : SlAt w ts (.slice (some ⟨b, o, none⟩) n cap) fp) (hp : 0 < ts.length) : b ∈ fp := by
  rcases h with ⟨rfl, _, _⟩ | ⟨b', o', cap', f, e, _, _, _, _, rfl⟩
  · simp at hp
  · cases e
    simp

set_option linter.unusedSimpArgs false in
set_option maxRecDepth 100000 in
set_option maxHeartbeats 4000000 in
theorem l1Blur_of (k : Int) (ts : List Ty) (ih : ∀ t ∈ ts, BlC t) : BlC (.mk k ts) := by
  intro M q v fp w hR0 hq hat hfp
  have HIH := hid ih
  have HFP := hid hfp
  have HQ0 := hid hq
  clear ih hfp
  obtain ⟨i0, hi0, hz0, hz1, hz2⟩ := info_parts (P := Try.prog) (e := 25) Try.infoElem
  obtain ⟨s, rfl, hs⟩ := Ty.at_mk.1 hat
  obtain ⟨a, cap, rfl, hc, hm, hget⟩ := hs.openA
  have HG := hid hget
  have HSL := hid hs
  have HTL := hid (show ts.length ≤ 10000 by simp only [Ty.cnt] at hq; omega)
  have hMw := hR0.lt
  have hbA : Below w.heap.size w ((w.alloc (Obj.cells #[.int .i64 k, .slice a ts.length cap] 25)).alloc (Obj.cells #[.int .i64 0, .slice none 0 0] 25)) := ((Below.refl _ _).alloc (Nat.le_refl _) _).alloc (by simp) _
  have hW0 := Rw.of_below hbA hMw
  obtain ⟨hE0, hE1⟩ := two9 (Below.refl (((w.alloc (Obj.cells #[.int .i64 k, .slice a ts.length cap] 25)).alloc (Obj.cells #[.int .i64 0, .slice none 0 0] 25))).heap.size ((w.alloc (Obj.cells #[.int .i64 k, .slice a ts.length cap] 25)).alloc (Obj.cells #[.int .i64 0, .slice none 0 0] 25)))
  have HP := hid (pick_any M q 4 _ (hR0.rw hbA) (by omega) (by omega) (by omega))
  clear hbA hR0 hget hs hat hq
  go_enter Try.func72, Try.ntmps72
  go_wp2_with fail
  refine HP.out.mono ?_
  rintro e w1 ⟨i, rfl, ⟨hi0', hi4⟩, hR1, hW1⟩
  by_cases hi : i = 0
  · subst hi
    have hW01 := hW0.trans hW1
    have hE := hW1.block hE1 (by omega)
    have hs1 := hW1.size
    simp at hs1
    have HR1 := hid hR1
    have HE := hid hE
    have HW01 := hid hW01
    clear hR1 hW1 hE0 hE1 hW0 hE hW01
    go_wp2_with fail
    refine (l1Any_any _).mono ?_
    rintro e w2 ⟨rfl, hb2⟩
    have hE2 := (hb2.block _ (lt_of_block HE.out)).trans HE.out
    have r0 : w2.cell? ⟨w.heap.size + 1, 0, none⟩ = some (.int .i64 0) := by rw [cell_of_block hE2]; rfl
    have r1 : w2.cell? ⟨w.heap.size + 1, 1, none⟩ = some (.slice none 0 0) := by rw [cell_of_block hE2]; rfl
    have rz : ∀ o, w2.frozen? ⟨w.heap.size + 1, o, none⟩ = false := fun o => frozen_of_block hE2
    have HF := hid (dr_close (R := w.heap.size + 1) (lo := w2.heap.size) (t := .mk 1 []) (Ty.at_mk.2 ⟨.slice none 0 0, rfl, .inl ⟨rfl, rfl, none, 0, rfl⟩⟩) (Fresh.nil _ _) ((HR1.out.rw hb2).mono (q' := q + 100 * ((Ty.mk k ts).cnt + 1)) (by omega)) (HW01.out.trans (Rw.of_below hb2 HR1.out.lt)) hMw (by omega) (by have := hb2.size; omega))
    clear hb2 hE2
    go_wp2_with fail
    exact bodyPost_ret (v := .agg #[.int .i64 1, .slice none 0 0]) (by simp [results, Try.results72, go_sem, r0, r1]) rfl ⟨.mk 1 [], _, [], rfl, by simp [Ty.cnt, cntL], HF.out.1, HF.out.2.1, HF.out.2.2.1, HF.out.2.2.2⟩
  have hi' : (i == 0) = false := by rw [beq_eq_false_iff_ne]; exact hi
  clear hi
  have hMw1 : M < w1.heap.size := hR1.lt
  have hM1 : M < w1.heap.size := hMw1
  have HR1 := hid hR1
  have HW1 := hid (hW0.trans hW1)
  have hEr := hW1.block hE1 (by omega)
  have HER := hid hEr
  have HEX := hid (hW1.block hE0 (by omega))
  have hw1s : w.heap.size + 1 + 1 ≤ w1.heap.size := by have := hW1.size; simp at this; exact this
  have u0 : w1.cell? ⟨w.heap.size, 0, none⟩ = some (.int .i64 k) := by rw [cell_of_block HEX.out]; rfl
  have u1 : w1.cell? ⟨w.heap.size, 1, none⟩ = some (.slice a ts.length cap) := by rw [cell_of_block HEX.out]; rfl
  clear hR1 hW1 hEr
  go_wp2_with fail
  clear u0 u1
  go_loopw [6] (fun i wr => ∃ (j : Nat) (v : Value) (f : List Nat) (ds : List Ty), j ≤ ts.length ∧ i = .int .i64 j ∧ ds.length = j ∧ cntL ds ≤ cntL (ts.take j) ∧ RdAt M (q + 1 + 100 * (j + cntL (ts.take j))) wr ∧ Rw M w1 wr ∧ wr.heap[w1.heap.size]? = some (.cells #[.int .i64 k, v] 25 (0, 0)) ∧ GrowT (w1.heap.size + 1) ds v f wr)
    (fun i _ => ts.length - (intOf i).toNat)
  case atStart => exact ⟨0, .slice none 0 0, [], [], Nat.zero_le _, rfl, rfl, by simp, by simpa [cntL] using HR1.out.rw ((Below.refl _ _).alloc (Nat.le_refl _) _), Rw.of_below ((Below.refl _ _).alloc (Nat.le_refl _) _) hM1, alloc_new _ _, GrowT.zero _ _⟩
  case round =>
    obtain ⟨j, v, f, ds, hj, rfl, hdl, hcs, hR, hW, hO, hG⟩ := hrel
    have y0 : wr.cell? ⟨w1.heap.size, 0, none⟩ = some (.int .i64 k) := by rw [cell_of_block hO]; rfl
    have y1 : wr.cell? ⟨w1.heap.size, 1, none⟩ = some v := by rw [cell_of_block hO]; rfl
    have hEX := hW.block HEX.out (by omega)
    have x0 : wr.cell? ⟨w.heap.size, 0, none⟩ = some (.int .i64 k) := by rw [cell_of_block hEX]; rfl
    have x1 : wr.cell? ⟨w.heap.size, 1, none⟩ = some (.slice a ts.length cap) := by rw [cell_of_block hEX]; rfl
    have HCS0 := hid hcs
    clear hcs hEX
    by_cases hlk : j < ts.length
    · obtain ⟨b, o, k1, n1, a1, cap1, g1, rfl, hblt, c0, c1, hat, hf⟩ := HG.out j hlk
      have hbM : b ≠ M := HFP.out b (HSL.out.in_fp (by omega))
      have hWr := HW1.out.trans hW
      replace c0 := hWr.cell c0 hbM
      replace c1 := hWr.cell c1 hbM
      have HGAT := hid (hWr.at hat (fun b hb => HFP.out b (hf b hb)))
      obtain ⟨w2, hw2⟩ : ∃ w2, w2 = wr := ⟨_, rfl⟩
      subst hw2
      have hM : w1.heap.size < w2.heap.size := lt_of_block hO
      have HLEN := hid hdl
      have hle := HTL.out
      have hmx : j + 1 ≤ maxLen := by unfold maxLen; omega
      have hby : (j + 1) * 32 ≤ 140737488355328 := by omega
      have hMw2 : M < w2.heap.size := by omega
      have htk : cntL (ts.take (j + 1)) = cntL (ts.take j) + ts[j].cnt := by rw [take_succ hlk, cntL_app]; simp [cntL]
      have hct := cntL_take_le ts (j + 1)
      have hq2 : q + 1 + 100 * (j + cntL (ts.take j)) + 100 * (ts[j].cnt + 1) ≤ 1000000 := by
        have := HQ0.out
        simp only [Ty.cnt] at this
        omega
      have HQ := hid (show q + 1 + 100 * (j + cntL (ts.take j)) + 100 * (ts[j].cnt + 1) = q + 1 + 100 * (j + 1 + cntL (ts.take (j + 1))) by rw [htk]; omega)
      have hRd := hR.rw (below_drew w2)
      have HIQ := hid (HIH.out _ (List.getElem_mem hlk) M _ _ _ _ hRd hq2 (HGAT.out.below (below_drew w2)) (fun b hb => HFP.out b (hf b hb)))
      have HCS := hid (show cntL ds + ts[j].cnt ≤ cntL (ts.take (j + 1)) by rw [htk]; have := HCS0.out; omega)
      have hj0 : (0 : Int) ≤ (j : Int) := by omega
      have hj1 : (j : Int) < (ts.length : Int) := by omega
      clear hat hf htk hct hle
      go_wp2_with fail
      have HS0 := hid (show ∀ w', Rw M w2 w' → (fun w' => w'.cell? ⟨w1.heap.size, 0, none⟩ = some (.int .i64 k) ∧ w'.cell? ⟨w1.heap.size, 1, none⟩ = some v ∧ w'.cell? ⟨w.heap.size, 0, none⟩ = some (.int .i64 k) ∧ w'.cell? ⟨w.heap.size, 1, none⟩ = some (.slice (some ⟨b, o, none⟩) ts.length cap) ∧ w'.cell? ⟨b, o + j * 2, none⟩ = some (.int .i64 k1) ∧ w'.cell? ⟨b, o + j * 2 + 1, none⟩ = some (.slice a1 n1 cap1)) w' from fun w' h => ⟨h.cell y0 (by show w1.heap.size ≠ M; omega), h.cell y1 (by show w1.heap.size ≠ M; omega), h.cell x0 (by show w.heap.size ≠ M; omega), h.cell x1 (by show w.heap.size ≠ M; omega), h.cell c0 (by show b ≠ M; omega), h.cell c1 (by show b ≠ M; omega)⟩)
      refine regionL (s := 12) (S0 := (fun w' => w'.cell? ⟨w1.heap.size, 0, none⟩ = some (.int .i64 k) ∧ w'.cell? ⟨w1.heap.size, 1, none⟩ = some v ∧ w'.cell? ⟨w.heap.size, 0, none⟩ = some (.int .i64 k) ∧ w'.cell? ⟨w.heap.size, 1, none⟩ = some (.slice (some ⟨b, o, none⟩) ts.length cap) ∧ w'.cell? ⟨b, o + j * 2, none⟩ = some (.int .i64 k1) ∧ w'.cell? ⟨b, o + j * 2 + 1, none⟩ = some (.slice a1 n1 cap1))) (S1 := (fun _ => True)) (by kernel_rfl) (HS0.out _ (Rw.drew hMw2)) (trivial) (fun hS0 => ?_)
      refine takeL0 (i := 0) (v := ?vr1) rfl rfl (by kernel_rfl) (by kernel_rfl) (by kernel_rfl) (by decide) (by kernel_rfl) (by kernel_rfl) (fun _ _ _ h => h) (Or.inl ⟨by rfl, ?hyr1⟩) (by assumption) ?_
      case hyr1 => (intro w hSw; (try dsimp only at hSw); go_simp; (try with_reducible rfl))
      try simp only [Act.put, List.setIfInBounds_toArray, List.set_cons_zero, List.set_cons_succ]
      refine takeL0 (i := 1) (v := ?vr2) rfl rfl (by kernel_rfl) (by kernel_rfl) (by kernel_rfl) (by decide) (by kernel_rfl) (by kernel_rfl) (fun _ _ _ h => h) (Or.inl ⟨by rfl, ?hyr2⟩) (by assumption) ?_
      case hyr2 => (intro w hSw; (try dsimp only at hSw); go_simp; (try with_reducible rfl))
      try simp only [Act.put, List.setIfInBounds_toArray, List.set_cons_zero, List.set_cons_succ]
      refine takeL0 (i := 2) (v := ?vr3) rfl rfl (by kernel_rfl) (by kernel_rfl) (by kernel_rfl) (by decide) (by kernel_rfl) (by kernel_rfl) (fun _ _ _ h => h) (Or.inl ⟨by rfl, ?hyr3⟩) (by assumption) ?_
      case hyr3 => (intro w hSw; (try dsimp only at hSw); go_simp; (try with_reducible rfl))
      try simp only [Act.put, List.setIfInBounds_toArray, List.set_cons_zero, List.set_cons_succ]
      refine takeL0 (i := 3) (v := ?vr4) rfl rfl (by kernel_rfl) (by kernel_rfl) (by kernel_rfl) (by decide) (by kernel_rfl) (by kernel_rfl) (fun _ _ _ h => h) (Or.inl ⟨by rfl, ?hyr4⟩) (by assumption) ?_
      case hyr4 => (intro w hSw; (try dsimp only at hSw); go_simp; (try with_reducible rfl))
      try simp only [Act.put, List.setIfInBounds_toArray, List.set_cons_zero, List.set_cons_succ]
      refine takeL0 (i := 4) (v := ?vr5) rfl rfl (by kernel_rfl) (by kernel_rfl) (by kernel_rfl) (by decide) (by kernel_rfl) (by kernel_rfl) (fun _ _ _ h => h) (Or.inl ⟨by rfl, ?hyr5⟩) (by assumption) ?_
      case hyr5 => (intro w hSw; (try dsimp only at hSw); go_simp; (try with_reducible rfl))
      try simp only [Act.put, List.setIfInBounds_toArray, List.set_cons_zero, List.set_cons_succ]
      refine takeL0 (i := 5) (v := ?vr6) rfl rfl (by kernel_rfl) (by kernel_rfl) (by kernel_rfl) (by decide) (by kernel_rfl) (by kernel_rfl) (fun _ _ _ h => h) (Or.inl ⟨by rfl, ?hyr6⟩) (by assumption) ?_
      case hyr6 => (intro w hSw; (try dsimp only at hSw); go_simp; (try with_reducible rfl))
      try simp only [Act.put, List.setIfInBounds_toArray, List.set_cons_zero, List.set_cons_succ]
      refine takeL0 (i := 6) (v := ?vr7) rfl rfl (by kernel_rfl) (by kernel_rfl) (by kernel_rfl) (by decide) (by kernel_rfl) (by kernel_rfl) (fun _ _ _ h => h) (Or.inl ⟨by rfl, ?hyr7⟩) (by assumption) ?_
      case hyr7 => (intro w hSw; (try dsimp only at hSw); go_simp; (try with_reducible rfl))
      try simp only [Act.put, List.setIfInBounds_toArray, List.set_cons_zero, List.set_cons_succ]
      refine takeL0 (i := 7) (v := ?vr8) rfl rfl (by kernel_rfl) (by kernel_rfl) (by kernel_rfl) (by decide) (by kernel_rfl) (by kernel_rfl) (fun _ _ _ h => h) (Or.inl ⟨by rfl, ?hyr8⟩) (by assumption) ?_
      case hyr8 => (intro w hSw; (try dsimp only at hSw); go_simp; (try with_reducible rfl))
      try simp only [Act.put, List.setIfInBounds_toArray, List.set_cons_zero, List.set_cons_succ]
      refine readyL (rs := [8]) (by kernel_rfl) (by simp) ?_
      refine AllReadyL.cons rfl (fun K hK => ?_) AllReadyL.nil
      go_simp
      refine HIQ.out.mono ?_
      rintro e w3 ⟨t', v1, f', rfl, ht', hat', hf', hR3, hW3⟩
      obtain ⟨k2, n2, a2, cap2, rfl⟩ := hat'.agg
      have hWd := (Rw.drew hMw2).trans hW3
      obtain ⟨xs, ho1, ha1, hf1, hn1⟩ := hG.rw (by omega) hWd
      have ho2 := ho1
      rw [HLEN.out] at ho2
      have hO1 := hWd.block hO (by omega)
      have hM1' := lt_of_block hO1
      have hA3 : Below w3.heap.size w3 (w3.alloc (Obj.cells #[.int .i64 k2, .slice a2 n2 cap2] 25)) := (Below.refl _ _).alloc (Nat.le_refl _) _
      refine hK.out _ _ ?_ (fun hS1 => ?_)
      · exact ⟨trivial, fun _ => HS0.out _ hWd⟩
      clear hK K hS0
      try simp only [Act.put, List.setIfInBounds_toArray, List.set_cons_zero, List.set_cons_succ]
      refine readyL (rs := [9]) (by kernel_rfl) (by simp) ?_
      refine AllReadyL.cons rfl (fun K hK => ?_) AllReadyL.nil
      go_simp
      refine hK.out _ _ ?_ (fun hS2 => ?_)
      · exact ⟨trivial, fun _ => HS0.out _ (hWd.trans (Rw.of_below hA3 (by omega)))⟩
      clear hK K hS1
      try simp only [Act.put, List.setIfInBounds_toArray, List.set_cons_zero, List.set_cons_succ]
      refine readyL (rs := [10]) (by kernel_rfl) (by simp) ?_
      refine AllReadyL.cons rfl (fun K hK => ?_) AllReadyL.nil
      refine step_append_lies _ (by rfl) _ _ _ (by rfl) (w1.heap.size + 1) 25 i0 _ 2 32 Try.underElems hi0 hz0 hz1 hz2 rfl (by omega) v j xs (by rfl) (ho2.alloc _) ⟨w3.heap.size, 0, none⟩ 1 1 [.int .i64 k2, .slice a2 n2 cap2] (by rfl) (by rfl) (World.news_of_block (cs := #[.int .i64 k2, .slice a2 n2 cap2]) (t := 25) (fr := (0, 0)) (heap_alloc_new w3 _)) (by simp [Value.oneCell']) (by omega) hmx hby (by simp; omega) (w3.heap.size + 1) (by simp) ?_
      intro g cp w4 hown3 hgrow hat3 hlt3
      have hO3 := grow_keep hgrow ((Below.heap_alloc _ _ _ hM1').trans hO1) (own_ne ho2 (by omega))
      have z1 := (cell_of_block (o := 1) hO3)
      have z2 := (frozen_of_block (o := 1) hO3)
      have hw3p : Below (w1.heap.size + 1) w3 w4 := ((Below.refl _ _).alloc (by omega) _).grown hgrow (by simp; omega) (fun b hb => (ho2.lt b hb).1)
      refine hK.out _ _ ?_ (fun hS3 => ?_)
      · exact ⟨trivial, fun _ => ⟨(hw3p.cell (p := ⟨w1.heap.size, 0, none⟩) (by show w1.heap.size < w1.heap.size + 1; omega)).trans (HS0.out _ hWd).1, (hw3p.cell (p := ⟨w1.heap.size, 1, none⟩) (by show w1.heap.size < w1.heap.size + 1; omega)).trans (HS0.out _ hWd).2.1, (hw3p.cell (p := ⟨w.heap.size, 0, none⟩) (by show w.heap.size < w1.heap.size + 1; omega)).trans (HS0.out _ hWd).2.2.1, (hw3p.cell (p := ⟨w.heap.size, 1, none⟩) (by show w.heap.size < w1.heap.size + 1; omega)).trans (HS0.out _ hWd).2.2.2.1, (hw3p.cell (p := ⟨b, o + j * 2, none⟩) (by show b < w1.heap.size + 1; omega)).trans (HS0.out _ hWd).2.2.2.2.1, (hw3p.cell (p := ⟨b, o + j * 2 + 1, none⟩) (by show b < w1.heap.size + 1; omega)).trans (HS0.out _ hWd).2.2.2.2.2⟩⟩
      clear hK K hS2
      try simp only [Act.put, List.setIfInBounds_toArray, List.set_cons_zero, List.set_cons_succ]
      refine takeL0 (i := 11) (v := ?vr9) rfl rfl (by kernel_rfl) (by kernel_rfl) (by kernel_rfl) (by decide) (by kernel_rfl) (by kernel_rfl) (fun _ _ _ h => h) (Or.inl ⟨by rfl, ?hyr9⟩) (by assumption) ?_
      case hyr9 => (intro w hSw; (try dsimp only at hSw); go_simp; (try with_reducible rfl))
      try simp only [Act.put, List.setIfInBounds_toArray, List.set_cons_zero, List.set_cons_succ]
      refine readyL (rs := [12]) (by kernel_rfl) (by simp) ?_
      refine AllReadyL.cons rfl (fun K hK => ?_) AllReadyL.nil
      go_simp
      refine hK.out _ _ ?_ (fun hS4 => ?_)
      · exact ⟨trivial, fun h => absurd (h.symm.trans (show _ = true by kernel_rfl)) (by decide)⟩
      clear hK K hS3
      try simp only [Act.put, List.setIfInBounds_toArray, List.set_cons_zero, List.set_cons_succ]
      refine doneL (by kernel_rfl) ?_ _
      have hG3 := GrowT.step (w := w2) (w2 := w3.alloc (Obj.cells #[.int .i64 k2, .slice a2 n2 cap2] 25)) ha1 hf1 hn1 hG.block.1 hG.block.2 (by omega) hat' hf' ((Below.refl _ _).alloc (Nat.le_refl _) _) hgrow hown3 (by rw [HLEN.out]) (by simpa using hat3)
      have hw3 : Below w1.heap.size w3 w4 := ((Below.refl _ _).alloc (by omega) _).grown hgrow (by simp; omega) (fun b hb => by have := (ho2.lt b hb).1; omega)
      have HRN := hid (fun (o : Nat) (u : Value) => hR3.below1 ((hw3.setCell (p := ⟨w1.heap.size, o, none⟩) (Nat.le_refl _) u).mono (by omega)))
      have HWN := hid (fun (o : Nat) (u : Value) => (hW.trans hWd).tail (hw3.setCell (p := ⟨w1.heap.size, o, none⟩) (Nat.le_refl _) u) hM1)
      have HO3 := hid hO3
      have HG3 := hid (hG3.setCell (p := ⟨w1.heap.size, 1, none⟩) (by simp) (.slice (some ⟨g, 0, none⟩) (j + 1) cp))
      clear hO1 hO ha1 hf1 hn1 hat' hf' hgrow hown3 hat3 hlt3 ho1 ho2 hWd hw3 hw3p hG z1 z2 y0 y1 x0 x1 c0 c1 hR hR3 hW hW3 hRd hG3 hO3 hA3
      go_wp2_with fail
      refine ⟨⟨j + 1, _, _, ds ++ [t'], by omega, by go_num, by simp [HLEN.out], by rw [cntL_app]; have := HCS.out; simp only [cntL]; omega, (HRN.out _ _).mono (by have := HQ.out; omega), HWN.out _ _, ?_, HG3.out⟩, by simp [intOf]; omega⟩
      rw [heap_setCell_at HO3.out]
      rfl
    · obtain rfl : j = ts.length := by omega
      obtain ⟨a', cap', rfl⟩ := hG.shape
      obtain ⟨fp', hs', hf'⟩ := hG.done (by have := HTL.out; unfold maxLen; omega)
      have hEw := hW.block HER.out (by omega)
      have r0 : wr.cell? ⟨w.heap.size + 1, 0, none⟩ = some (.int .i64 0) := by rw [cell_of_block hEw]; rfl
      have r1 : wr.cell? ⟨w.heap.size + 1, 1, none⟩ = some (.slice none 0 0) := by rw [cell_of_block hEw]; rfl
      have rz : ∀ o, wr.frozen? ⟨w.heap.size + 1, o, none⟩ = false := fun o => frozen_of_block hEw
      have htk : ts.take ts.length = ts := List.take_length
      rw [htk] at hR HCS0
      have HF := hid (dr_close (R := w.heap.size + 1) (t := .mk k ds) (Ty.at_mk.2 ⟨_, rfl, hs'⟩) hf' (hR.mono (q' := q + 100 * ((Ty.mk k ts).cnt + 1)) (by simp only [Ty.cnt]; omega)) (HW1.out.trans hW) hMw (by omega) (by omega))
      have HCN := hid (show (Ty.mk k ds).cnt ≤ (Ty.mk k ts).cnt by simp only [Ty.cnt]; have := HCS0.out; omega)
      clear hs' hf' hG hO hR hW hEw HCS0 hdl
      go_wp2_with fail
      exact bodyPost_ret (v := .agg #[.int .i64 k, .slice a' ds.length cap']) (by simp [results, Try.results72, go_sem, r0, r1]) rfl ⟨.mk k ds, _, fp', rfl, HCN.out, HF.out.1, HF.out.2.1, HF.out.2.2.1, HF.out.2.2.2⟩

theorem l1Blur_any : ∀ t : Ty, BlC t := Ty.ind l1Blur_of
end Go.Proofs.Ytolhfcpmhhhjpaa

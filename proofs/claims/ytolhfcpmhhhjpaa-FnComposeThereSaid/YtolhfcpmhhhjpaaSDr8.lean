/- Draws: DrawConsistent, DrawChain. -/
import Derived.Test.YtolhfcpmhhhjpaaSDr7
namespace Go.Proofs.Ytolhfcpmhhhjpaa
open Go.RowKit

/-- What a draw of two types says of their sizes. -/
def SmallX (t u : Ty) : Prop := t.cnt ≤ 100 ∧ u.cnt ≤ 100

set_option maxRecDepth 100000 in
set_option maxHeartbeats 4000000 in
theorem drawCon_any (a : Option Addr) (n cap : Nat) (w : World) (hB : BytA w a n) (hn : n ≤ cap) (hm : cap ≤ maxLen) : Calls Try.prog 32 #[.slice a n cap] w (TwoX w SmallX) := by
  have hbA : Below w.heap.size w ((w.alloc (Obj.cells #[.int .i64 0, .slice none 0 0] 25)).alloc (Obj.cells #[.int .i64 0, .slice none 0 0] 25)) := ((Below.refl _ _).alloc (Nat.le_refl _) _).alloc (by simp) _
  obtain ⟨hE0, hE1⟩ := two9 (Below.refl (((w.alloc (Obj.cells #[.int .i64 0, .slice none 0 0] 25)).alloc (Obj.cells #[.int .i64 0, .slice none 0 0] 25))).heap.size ((w.alloc (Obj.cells #[.int .i64 0, .slice none 0 0] 25)).alloc (Obj.cells #[.int .i64 0, .slice none 0 0] 25)))
  have hsz : (((w.alloc (Obj.cells #[.int .i64 0, .slice none 0 0] 25)).alloc (Obj.cells #[.int .i64 0, .slice none 0 0] 25))).heap.size = w.heap.size + 1 + 1 := by simp
  have HO := hid (open_any a n cap ((w.alloc (Obj.cells #[.int .i64 0, .slice none 0 0] 25)).alloc (Obj.cells #[.int .i64 0, .slice none 0 0] 25)) (hB.below hbA) hn hm)
  rw [hsz] at HO
  have HBA := hid hbA
  have HE := hid (And.intro hE0 hE1)
  clear hB hbA hE0 hE1
  go_enter Try.func32, Try.ntmps32
  go_wp2_with fail
  refine HO.out.mono ?_
  rintro e w1 ⟨rfl, hR1, hb1⟩
  have hb1' : Below (((w.alloc (Obj.cells #[.int .i64 0, .slice none 0 0] 25)).alloc (Obj.cells #[.int .i64 0, .slice none 0 0] 25))).heap.size ((w.alloc (Obj.cells #[.int .i64 0, .slice none 0 0] 25)).alloc (Obj.cells #[.int .i64 0, .slice none 0 0] 25)) w1 := by rw [hsz]; exact hb1
  have HER1 := hid ((hb1'.block _ (by omega)).trans HE.out.1)
  have HER2 := hid ((hb1'.block _ (by omega)).trans HE.out.2)
  have HBW := hid (HBA.out.trans (hb1'.mono (by omega)))
  have HT := hid (l1Type_any (w.heap.size + 1 + 1) 0 w1 hR1 (by omega))
  have hs1 := hR1.lt
  clear hb1 hb1' hR1 HE
  go_wp2_with fail
  refine HT.out.mono ?_
  rintro e w2 ⟨tt, vt, gt, rfl, hsh, hatt, hft, hR2, hW2⟩
  obtain ⟨kt, nt, at', ct, rfl⟩ := hatt.agg
  have hal : Below w2.heap.size w2 (w2.alloc (Obj.cells #[.int .i64 kt, .slice at' nt ct] 25)) := (Below.refl _ _).alloc (Nat.le_refl _) _
  have hs2 := hW2.size
  have hs2' := hR2.lt
  have hW2a := hW2.trans (Rw.of_below hal hR2.lt)
  have HSH := hid hsh
  have HCN := hid (cnt_shp4 hsh)
  have HNM := hid (show ∀ b ∈ gt, b ≠ (w.heap.size + 1 + 1) from fun b hb => by have := hft.ge b hb; omega)
  replace HER1 := hid (hW2a.block HER1.out (by omega))
  replace HER2 := hid (hW2a.block HER2.out (by omega))
  replace HBW := hid (HBW.out.trans (hW2a.below.mono (by omega)))
  have HATT := hid (hatt.below hal)
  have HOT := hid (alloc_new w2 (Obj.cells #[.int .i64 kt, .slice at' nt ct] 25))
  have HP := hid (pick_any (w.heap.size + 1 + 1) 100 3 _ ((hR2.mono (q' := 100) (by omega)).rw hal) (by omega) (by omega) (by omega))
  clear hsh hatt hft hR2 hW2 hW2a hal
  go_wp2_with fail
  refine HP.out.mono ?_
  rintro e w3 ⟨i, rfl, ⟨hi0, hi4⟩, hR3, hW3⟩
  have hOT := hW3.block HOT.out (by omega)
  have y0 : w3.cell? ⟨w2.heap.size, 0, none⟩ = some (.int .i64 kt) := by rw [cell_of_block hOT]; rfl
  have y1 : w3.cell? ⟨w2.heap.size, 1, none⟩ = some (.slice at' nt ct) := by rw [cell_of_block hOT]; rfl
  have hs3 : w2.heap.size < w3.heap.size := lt_of_block hOT
  replace HER1 := hid (hW3.block HER1.out (by omega))
  replace HER2 := hid (hW3.block HER2.out (by omega))
  replace HBW := hid (HBW.out.trans (hW3.below.mono (by omega)))
  have HATT3 := hid (hW3.at HATT.out HNM.out)
  have HM3 := hid hR3.lt
  have HR3 := hid hR3
  clear hW3 hOT hR3
  by_cases h0 : i = 0
  · subst h0
    have HM1 := hid (l1Mutate_any tt (w.heap.size + 1 + 1) 101 _ gt w3 (HR3.out.mono (by omega)) (by omega) HATT3.out HNM.out (by have := HCN.out; omega))
    go_wp2_with fail
    refine HM1.out.mono ?_
    rintro e w4 ⟨t1, v1, g1, rfl, hc1, hat1, hf1, hR4, hW4⟩
    have HC1 := hid hc1
    clear hc1
    obtain ⟨k1, n1, a1, c1, rfl⟩ := hat1.agg
    have HT4 := hid (l1Type_any (w.heap.size + 1 + 1) 111 w4 hR4 (by omega))
    have hs4 := hW4.size
    clear y0 y1
    go_wp2_with fail
    refine HT4.out.mono ?_
    rintro e w5 ⟨t2, v2, g2, rfl, hc2, hat2, hf2, hR5, hW5⟩
    have HSX := hid (show SmallX t1 t2 from ⟨by have := HC1.out; have := HCN.out; omega, by have := cnt_shp4 hc2; omega⟩)
    clear hc2
    obtain ⟨k2, n2, a2, c2, rfl⟩ := hat2.agg
    have hWb := hW4.trans hW5
    have hEa := hWb.block HER1.out (by omega)
    have hEb := hWb.block HER2.out (by omega)
    have z0 := (cell_of_block (o := 0) hEa)
    have z1 := (cell_of_block (o := 1) hEa)
    have zf := fun o => frozen_of_block (o := o) hEa
    have u0 := (cell_of_block (o := 0) hEb)
    have u1 := (cell_of_block (o := 1) hEb)
    have uf := fun o => frozen_of_block (o := o) hEb
    have HF := hid (two_close (w := w) (R1 := w.heap.size) (R2 := w.heap.size + 1) (P := SmallX) HSX.out (hW5.at hat1 (fun b hb => by have h0 := hf1.ge b hb; omega)) hat2 (fun b hb => by have h0 := hf1.ge b hb; refine ⟨?_, ?_, ?_⟩ <;> omega) (fun b hb => by have h0 := hf2.ge b hb; refine ⟨?_, ?_, ?_⟩ <;> omega) (fun b hb o => ((hW5.fresh hf1 (by have := HM3.out; first | omega | simpa using this)).2 b hb).2.2 o) (fun b hb o => (hf2.2 b hb).2.2 o) (HBW.out.trans (hWb.below.mono (by omega))) (Nat.le_refl _) (by omega))
    clear hat1 hat2 hf1 hf2 hR4 hR5 hW4 hW5 hWb hEa hEb HT4
    go_wp2_with fail
    exact bodyPost_ret (v := .tuple #[.agg #[.int .i64 k1, .slice a1 n1 c1], .agg #[.int .i64 k2, .slice a2 n2 c2]]) (by simp [results, Try.results32, go_sem, z0, z1, u0, u1]) rfl HF.out
  have h0' : (i == 0) = false := by rw [beq_eq_false_iff_ne]; exact h0
  have HBL1 := hid (l1Blur_any tt (w.heap.size + 1 + 1) 101 _ gt w3.drew ((HR3.out.rw (below_drew w3)).mono (by omega)) (by have := HCN.out; omega) (HATT3.out.below (below_drew w3)) HNM.out)
  have HS0 := hid (show ∀ w', Rw (w.heap.size + 1 + 1) w3 w' → (fun w' => w'.cell? ⟨w2.heap.size, 0, none⟩ = some (.int .i64 kt) ∧ w'.cell? ⟨w2.heap.size, 1, none⟩ = some (.slice at' nt ct)) w' from fun w' h => ⟨h.cell y0 (by show w2.heap.size ≠ (w.heap.size + 1 + 1); omega), h.cell y1 (by show w2.heap.size ≠ (w.heap.size + 1 + 1); omega)⟩)
  clear h0
  go_wp2_with fail
  refine regionL (s := 9) (S0 := (fun w' => w'.cell? ⟨w2.heap.size, 0, none⟩ = some (.int .i64 kt) ∧ w'.cell? ⟨w2.heap.size, 1, none⟩ = some (.slice at' nt ct))) (S1 := (fun _ => True)) (by kernel_rfl) (HS0.out _ (Rw.drew HM3.out)) (trivial) (fun hS0 => ?_)
  refine takeL0 (i := 0) (v := ?ve1) rfl rfl (by kernel_rfl) (by kernel_rfl) (by kernel_rfl) (by decide) (by kernel_rfl) (by kernel_rfl) (fun _ _ _ h => h) (Or.inl ⟨by rfl, ?hye1⟩) (by assumption) ?_
  case hye1 => (intro w hSw; (try dsimp only at hSw); go_simp; (try with_reducible rfl))
  try simp only [Act.put, List.setIfInBounds_toArray, List.set_cons_zero, List.set_cons_succ]
  refine takeL0 (i := 1) (v := ?ve2) rfl rfl (by kernel_rfl) (by kernel_rfl) (by kernel_rfl) (by decide) (by kernel_rfl) (by kernel_rfl) (fun _ _ _ h => h) (Or.inl ⟨by rfl, ?hye2⟩) (by assumption) ?_
  case hye2 => (intro w hSw; (try dsimp only at hSw); go_simp; (try with_reducible rfl))
  try simp only [Act.put, List.setIfInBounds_toArray, List.set_cons_zero, List.set_cons_succ]
  refine takeL0 (i := 2) (v := ?ve3) rfl rfl (by kernel_rfl) (by kernel_rfl) (by kernel_rfl) (by decide) (by kernel_rfl) (by kernel_rfl) (fun _ _ _ h => h) (Or.inl ⟨by rfl, ?hye3⟩) (by assumption) ?_
  case hye3 => (intro w hSw; (try dsimp only at hSw); go_simp; (try with_reducible rfl))
  try simp only [Act.put, List.setIfInBounds_toArray, List.set_cons_zero, List.set_cons_succ]
  refine takeL0 (i := 5) (v := ?ve4) rfl rfl (by kernel_rfl) (by kernel_rfl) (by kernel_rfl) (by decide) (by kernel_rfl) (by kernel_rfl) (fun _ _ _ h => h) (Or.inl ⟨by rfl, ?hye4⟩) (by assumption) ?_
  case hye4 => (intro w hSw; (try dsimp only at hSw); go_simp; (try with_reducible rfl))
  try simp only [Act.put, List.setIfInBounds_toArray, List.set_cons_zero, List.set_cons_succ]
  refine takeL0 (i := 6) (v := ?ve5) rfl rfl (by kernel_rfl) (by kernel_rfl) (by kernel_rfl) (by decide) (by kernel_rfl) (by kernel_rfl) (fun _ _ _ h => h) (Or.inl ⟨by rfl, ?hye5⟩) (by assumption) ?_
  case hye5 => (intro w hSw; (try dsimp only at hSw); go_simp; (try with_reducible rfl))
  try simp only [Act.put, List.setIfInBounds_toArray, List.set_cons_zero, List.set_cons_succ]
  refine readyL (rs := [3]) (by kernel_rfl) (by simp) ?_
  refine AllReadyL.cons rfl (fun K hK => ?_) AllReadyL.nil
  go_simp
  refine HBL1.out.mono ?_
  rintro e w4 ⟨t0, v0, g0, rfl, hcn0, hat0, hf0, hR4, hW4⟩
  obtain ⟨k0, n0, a0, c0, rfl⟩ := hat0.agg
  have hWa := (Rw.drew HM3.out).trans hW4
  have HM5 := hid (l1Mutate_any t0 (w.heap.size + 1 + 1) 3400 _ g0 w4 (hR4.mono (by have := HCN.out; omega)) (by omega) hat0 (fun b hb => by have h0 := hf0.ge b hb; have h1 : w3.heap.size ≤ b := (by simpa using h0); omega) (by have := HCN.out; omega))
  have hs4 := hWa.size
  refine hK.out _ _ ?_ (fun hS1 => ?_)
  · exact ⟨trivial, fun _ => HS0.out _ hWa⟩
  clear hK K hS0
  try simp only [Act.put, List.setIfInBounds_toArray, List.set_cons_zero, List.set_cons_succ]
  refine readyL (rs := [4]) (by kernel_rfl) (by simp) ?_
  refine AllReadyL.cons rfl (fun K hK => ?_) AllReadyL.nil
  go_simp
  refine HM5.out.mono ?_
  rintro e w5 ⟨t1, v1, g1, rfl, hc1, hat1, hf1, hR5, hW5⟩
  have HC1 := hid (show t1.cnt ≤ 100 by have := HCN.out; omega)
  clear hc1
  obtain ⟨k1, n1, a1, c1, rfl⟩ := hat1.agg
  have hWb := hWa.trans hW5
  have HB6 := hid (l1Blur_any tt (w.heap.size + 1 + 1) 3410 _ gt w5 hR5 (by have := HCN.out; omega) (hWb.at HATT3.out HNM.out) HNM.out)
  have hs5 := hW5.size
  refine hK.out _ _ ?_ (fun hS2 => ?_)
  · exact ⟨trivial, fun _ => HS0.out _ hWb⟩
  clear hK K hS1
  try simp only [Act.put, List.setIfInBounds_toArray, List.set_cons_zero, List.set_cons_succ]
  refine readyL (rs := [7]) (by kernel_rfl) (by simp) ?_
  refine AllReadyL.cons rfl (fun K hK => ?_) AllReadyL.nil
  go_simp
  refine HB6.out.mono ?_
  rintro e w6 ⟨t2, v2, g2, rfl, hc2, hat2, hf2, hR6, hW6⟩
  have HSX := hid (show SmallX t1 t2 from ⟨HC1.out, by have := HCN.out; omega⟩)
  clear hc2
  obtain ⟨k2, n2, a2, c2, rfl⟩ := hat2.agg
  have hWc := hWb.trans hW6
  have hEa := hWc.block HER1.out (by omega)
  have hEb := hWc.block HER2.out (by omega)
  have z0 := (cell_of_block (o := 0) hEa)
  have z1 := (cell_of_block (o := 1) hEa)
  have zf := fun o => frozen_of_block (o := o) hEa
  have u0 := (cell_of_block (o := 0) hEb)
  have u1 := (cell_of_block (o := 1) hEb)
  have uf := fun o => frozen_of_block (o := o) hEb
  refine hK.out _ _ ?_ (fun hS3 => ?_)
  · exact ⟨trivial, fun _ => HS0.out _ hWc⟩
  clear hK K hS2
  try simp only [Act.put, List.setIfInBounds_toArray, List.set_cons_zero, List.set_cons_succ]
  refine readyL (rs := [8]) (by kernel_rfl) (by simp) ?_
  refine AllReadyL.cons rfl (fun K hK => ?_) AllReadyL.nil
  go_simp
  refine hK.out _ _ ?_ (fun hS4 => ?_)
  · exact ⟨trivial, fun _ => ⟨(cell_setCell_ne _ ⟨w.heap.size, 1, none⟩ _ _ _ (by show w2.heap.size ≠ w.heap.size; omega)).trans ((cell_setCell_ne _ ⟨w.heap.size, 0, none⟩ _ _ _ (by show w2.heap.size ≠ w.heap.size; omega)).trans ((HS0.out _ hWc).1)), (cell_setCell_ne _ ⟨w.heap.size, 1, none⟩ _ _ _ (by show w2.heap.size ≠ w.heap.size; omega)).trans ((cell_setCell_ne _ ⟨w.heap.size, 0, none⟩ _ _ _ (by show w2.heap.size ≠ w.heap.size; omega)).trans ((HS0.out _ hWc).2))⟩⟩
  clear hK K hS3
  try simp only [Act.put, List.setIfInBounds_toArray, List.set_cons_zero, List.set_cons_succ]
  refine readyL (rs := [9]) (by kernel_rfl) (by simp) ?_
  refine AllReadyL.cons rfl (fun K hK => ?_) AllReadyL.nil
  go_simp
  refine hK.out _ _ ?_ (fun hS5 => ?_)
  · exact ⟨trivial, fun h => absurd (h.symm.trans (show _ = true by kernel_rfl)) (by decide)⟩
  clear hK K hS4
  try simp only [Act.put, List.setIfInBounds_toArray, List.set_cons_zero, List.set_cons_succ]
  refine doneL (by kernel_rfl) ?_ _
  have HF := hid (two_close (w := w) (R1 := w.heap.size) (R2 := w.heap.size + 1) (P := SmallX) HSX.out (hW6.at hat1 (fun b hb => by have h0 := hf1.ge b hb; omega)) hat2 (fun b hb => by have h0 := hf1.ge b hb; refine ⟨?_, ?_, ?_⟩ <;> omega) (fun b hb => by have h0 := hf2.ge b hb; refine ⟨?_, ?_, ?_⟩ <;> omega) (fun b hb o => ((hW6.fresh hf1 (by have := HM3.out; omega)).2 b hb).2.2 o) (fun b hb o => (hf2.2 b hb).2.2 o) (HBW.out.trans (hWc.below.mono (by omega))) (Nat.le_refl _) (by omega))
  clear hat0 hat1 hat2 hf0 hf1 hf2 hR4 hR5 hR6 hW4 hW5 hW6 hWa hWb hWc hEa hEb HM5 HB6
  go_wp2_with fail
  exact bodyPost_ret (v := .tuple #[.agg #[.int .i64 k1, .slice a1 n1 c1], .agg #[.int .i64 k2, .slice a2 n2 c2]]) (by simp [results, Try.results32, go_sem, z0, z1, u0, u1]) rfl HF.out

/-- Nothing of these blocks is frozen. -/
def FrzX (w : World) (fp : List Nat) : Prop := ∀ b ∈ fp, ∀ o, w.frozen? ⟨b, o, none⟩ = false

theorem FrzX.set {w : World} {fp : List Nat} (h : FrzX w fp) {a : Addr} (hn : ∀ b ∈ fp, b ≠ a.block) (u : Value) : FrzX (w.setCell a u) fp :=
  fun b hb o => (frozen_setCell_ne w a u b o (hn b hb)).trans (h b hb o)

end Go.Proofs.Ytolhfcpmhhhjpaa

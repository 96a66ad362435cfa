/- Draws: a source opened, two types drawn (DrawSubPositive, DrawSubtype). -/
import Derived.Test.YtelbpgdlcnnabaaDr5
import Derived.Test.YtelbpgdlcnnabaaDr6
import Derived.Test.YtelbpgdlcnnabaaDrO
namespace Go.Proofs.Ytelbpgdlcnnabaa
open Go.RowKit

/-- What a draw of two types says. -/
def TwoX (w : World) (P : Ty → Ty → Prop) (e : Ending) (w' : World) : Prop := ∃ t u v1 v2 f1 f2, e = .returned (.tuple #[v1, v2]) ∧ P t u ∧ t.At w' v1 f1 ∧ u.At w' v2 f2 ∧ (∀ b ∈ f1, w.heap.size ≤ b ∧ ∀ o, w'.frozen? ⟨b, o, none⟩ = false) ∧ (∀ b ∈ f2, w.heap.size ≤ b ∧ ∀ o, w'.frozen? ⟨b, o, none⟩ = false) ∧ Below w.heap.size w w'

theorem two_close {w w2 : World} {R1 R2 : Nat} {t u : Ty} {x y x' y' : Value} {f1 f2 : List Nat} {P : Ty → Ty → Prop} (hP : P t u) (h1 : t.At w2 (.agg #[x, y]) f1) (h2 : u.At w2 (.agg #[x', y']) f2) (m1 : ∀ b ∈ f1, w.heap.size ≤ b ∧ b ≠ R1 ∧ b ≠ R2) (m2 : ∀ b ∈ f2, w.heap.size ≤ b ∧ b ≠ R1 ∧ b ≠ R2) (z1 : ∀ b ∈ f1, ∀ o, w2.frozen? ⟨b, o, none⟩ = false) (z2 : ∀ b ∈ f2, ∀ o, w2.frozen? ⟨b, o, none⟩ = false) (hb : Below w.heap.size w w2) (hR1 : w.heap.size ≤ R1) (hR2 : w.heap.size ≤ R2) :
    TwoX w P (.returned (.tuple #[.agg #[x, y], .agg #[x', y']])) ((((w2.setCell ⟨R1, 0, none⟩ x).setCell ⟨R1, 1, none⟩ y).setCell ⟨R2, 0, none⟩ x').setCell ⟨R2, 1, none⟩ y') := by
  have n1 := fun b hb => (m1 b hb).2
  have n2 := fun b hb => (m2 b hb).2
  refine ⟨t, u, _, _, f1, f2, rfl, hP, ?_, ?_, fun b hb => ⟨(m1 b hb).1, fun o => (frozen_setCell_ne _ _ _ b o (n1 b hb).2).trans ((frozen_setCell_ne _ _ _ b o (n1 b hb).2).trans ((frozen_setCell_ne _ _ _ b o (n1 b hb).1).trans ((frozen_setCell_ne _ _ _ b o (n1 b hb).1).trans (z1 b hb o))))⟩, fun b hb => ⟨(m2 b hb).1, fun o => (frozen_setCell_ne _ _ _ b o (n2 b hb).2).trans ((frozen_setCell_ne _ _ _ b o (n2 b hb).2).trans ((frozen_setCell_ne _ _ _ b o (n2 b hb).1).trans ((frozen_setCell_ne _ _ _ b o (n2 b hb).1).trans (z2 b hb o))))⟩, (((hb.setCell (p := ⟨R1, 0, none⟩) hR1 x).setCell (p := ⟨R1, 1, none⟩) hR1 y).setCell (p := ⟨R2, 0, none⟩) hR2 x').setCell (p := ⟨R2, 1, none⟩) hR2 y'⟩
  · exact (((h1.setCell (a := ⟨R1, 0, none⟩) (fun b hb => (n1 b hb).1) x).setCell (a := ⟨R1, 1, none⟩) (fun b hb => (n1 b hb).1) y).setCell (a := ⟨R2, 0, none⟩) (fun b hb => (n1 b hb).2) x').setCell (a := ⟨R2, 1, none⟩) (fun b hb => (n1 b hb).2) y'
  · exact (((h2.setCell (a := ⟨R1, 0, none⟩) (fun b hb => (n2 b hb).1) x).setCell (a := ⟨R1, 1, none⟩) (fun b hb => (n2 b hb).1) y).setCell (a := ⟨R2, 0, none⟩) (fun b hb => (n2 b hb).2) x').setCell (a := ⟨R2, 1, none⟩) (fun b hb => (n2 b hb).2) y'

set_option maxRecDepth 100000 in
set_option maxHeartbeats 4000000 in
theorem drawSub_any (a : Option Addr) (n cap : Nat) (w : World) (hB : BytA w a n) (hn : n ≤ cap) (hm : cap ≤ maxLen) : Calls Try.prog 91 #[.slice a n cap] w (TwoX w (fun _ _ => True)) := by
  have hbA : Below w.heap.size w ((w.alloc (Obj.cells #[.int .i64 0, .slice none 0 0] 25)).alloc (Obj.cells #[.int .i64 0, .slice none 0 0] 25)) := ((Below.refl _ _).alloc (Nat.le_refl _) _).alloc (by simp) _
  obtain ⟨hE0, hE1⟩ := two9 (Below.refl (((w.alloc (Obj.cells #[.int .i64 0, .slice none 0 0] 25)).alloc (Obj.cells #[.int .i64 0, .slice none 0 0] 25))).heap.size ((w.alloc (Obj.cells #[.int .i64 0, .slice none 0 0] 25)).alloc (Obj.cells #[.int .i64 0, .slice none 0 0] 25)))
  have hsz : (((w.alloc (Obj.cells #[.int .i64 0, .slice none 0 0] 25)).alloc (Obj.cells #[.int .i64 0, .slice none 0 0] 25))).heap.size = w.heap.size + 1 + 1 := by simp
  have HO := hid (open_any a n cap ((w.alloc (Obj.cells #[.int .i64 0, .slice none 0 0] 25)).alloc (Obj.cells #[.int .i64 0, .slice none 0 0] 25)) (hB.below hbA) hn hm)
  rw [hsz] at HO
  have HBA := hid hbA
  have HE := hid (And.intro hE0 hE1)
  clear hB hbA hE0 hE1
  go_enter Try.func91, Try.ntmps91
  go_wp2_with fail
  refine HO.out.mono ?_
  rintro e w1 ⟨rfl, hR1, hb1⟩
  have hb1' : Below (((w.alloc (Obj.cells #[.int .i64 0, .slice none 0 0] 25)).alloc (Obj.cells #[.int .i64 0, .slice none 0 0] 25))).heap.size ((w.alloc (Obj.cells #[.int .i64 0, .slice none 0 0] 25)).alloc (Obj.cells #[.int .i64 0, .slice none 0 0] 25)) w1 := by rw [hsz]; exact hb1
  have HER1 := hid ((hb1'.block _ (by omega)).trans HE.out.1)
  have HER2 := hid ((hb1'.block _ (by omega)).trans HE.out.2)
  have HBW := hid (HBA.out.trans (hb1'.mono (by omega)))
  have HT := hid (l1Type_any (w.heap.size + 1 + 1) 0 w1 hR1 (by omega))
  have hs1 := hR1.lt
  clear hb1 hb1' hR1 HE
  go_wp2_with fail
  refine HT.out.mono ?_
  rintro e w2 ⟨tt, vt, gt, rfl, hsh, hatt, hft, hR2, hW2⟩
  obtain ⟨kt, nt, at', ct, rfl⟩ := hatt.agg
  have hal : Below w2.heap.size w2 (w2.alloc (Obj.cells #[.int .i64 kt, .slice at' nt ct] 25)) := (Below.refl _ _).alloc (Nat.le_refl _) _
  have hs2 := hW2.size
  have hs2' := hR2.lt
  have hW2a := hW2.trans (Rw.of_below hal hR2.lt)
  have HSH := hid hsh
  have HCN := hid (cnt_shp4 hsh)
  have HNM := hid (show ∀ b ∈ gt, b ≠ (w.heap.size + 1 + 1) from fun b hb => by have := hft.ge b hb; omega)
  replace HER1 := hid (hW2a.block HER1.out (by omega))
  replace HER2 := hid (hW2a.block HER2.out (by omega))
  replace HBW := hid (HBW.out.trans (hW2a.below.mono (by omega)))
  have HATT := hid (hatt.below hal)
  have HOT := hid (alloc_new w2 (Obj.cells #[.int .i64 kt, .slice at' nt ct] 25))
  have HP := hid (pick_any (w.heap.size + 1 + 1) 100 4 _ ((hR2.mono (q' := 100) (by omega)).rw hal) (by omega) (by omega) (by omega))
  clear hsh hatt hft hR2 hW2 hW2a hal
  go_wp2_with fail
  refine HP.out.mono ?_
  rintro e w3 ⟨i, rfl, ⟨hi0, hi4⟩, hR3, hW3⟩
  have hOT := hW3.block HOT.out (by omega)
  have y0 : w3.cell? ⟨w2.heap.size, 0, none⟩ = some (.int .i64 kt) := by rw [cell_of_block hOT]; rfl
  have y1 : w3.cell? ⟨w2.heap.size, 1, none⟩ = some (.slice at' nt ct) := by rw [cell_of_block hOT]; rfl
  have hs3 : w2.heap.size < w3.heap.size := lt_of_block hOT
  replace HER1 := hid (hW3.block HER1.out (by omega))
  replace HER2 := hid (hW3.block HER2.out (by omega))
  replace HBW := hid (HBW.out.trans (hW3.below.mono (by omega)))
  have HATT3 := hid (hW3.at HATT.out HNM.out)
  have HM3 := hid hR3.lt
  have HR3 := hid hR3
  clear hW3 hOT hR3
  by_cases h0 : i = 0
  · subst h0
    have HM1 := hid (l1Mutate_any tt (w.heap.size + 1 + 1) 101 _ gt w3 (HR3.out.mono (by omega)) (by omega) HATT3.out HNM.out (by have := HCN.out; omega))
    go_wp2_with fail
    refine HM1.out.mono ?_
    rintro e w4 ⟨t1, v1, g1, rfl, -, hat1, hf1, hR4, hW4⟩
    obtain ⟨k1, n1, a1, c1, rfl⟩ := hat1.agg
    have HT4 := hid (l1Type_any (w.heap.size + 1 + 1) 111 w4 hR4 (by omega))
    have hs4 := hW4.size
    clear y0 y1
    go_wp2_with fail
    refine HT4.out.mono ?_
    rintro e w5 ⟨t2, v2, g2, rfl, -, hat2, hf2, hR5, hW5⟩
    obtain ⟨k2, n2, a2, c2, rfl⟩ := hat2.agg
    have hWb := hW4.trans hW5
    have hEa := hWb.block HER1.out (by omega)
    have hEb := hWb.block HER2.out (by omega)
    have z0 := (cell_of_block (o := 0) hEa)
    have z1 := (cell_of_block (o := 1) hEa)
    have zf := fun o => frozen_of_block (o := o) hEa
    have u0 := (cell_of_block (o := 0) hEb)
    have u1 := (cell_of_block (o := 1) hEb)
    have uf := fun o => frozen_of_block (o := o) hEb
    have HF := hid (two_close (w := w) (R1 := w.heap.size) (R2 := w.heap.size + 1) (P := fun _ _ => True) trivial (hW5.at hat1 (fun b hb => by have h0 := hf1.ge b hb; omega)) hat2 (fun b hb => by have h0 := hf1.ge b hb; refine ⟨?_, ?_, ?_⟩ <;> omega) (fun b hb => by have h0 := hf2.ge b hb; refine ⟨?_, ?_, ?_⟩ <;> omega) (fun b hb o => ((hW5.fresh hf1 (by have := HM3.out; first | omega | simpa using this)).2 b hb).2.2 o) (fun b hb o => (hf2.2 b hb).2.2 o) (HBW.out.trans (hWb.below.mono (by omega))) (Nat.le_refl _) (by omega))
    clear hat1 hat2 hf1 hf2 hR4 hR5 hW4 hW5 hWb hEa hEb HT4
    go_wp2_with fail
    exact bodyPost_ret (v := .tuple #[.agg #[.int .i64 k1, .slice a1 n1 c1], .agg #[.int .i64 k2, .slice a2 n2 c2]]) (by simp [results, Try.results91, go_sem, z0, z1, u0, u1]) rfl HF.out
  have h0' : (i == 0) = false := by rw [beq_eq_false_iff_ne]; exact h0
  have HM1 := hid (l1Mutate_any tt (w.heap.size + 1 + 1) 101 _ gt w3.drew ((HR3.out.rw (below_drew w3)).mono (by omega)) (by omega) (HATT3.out.below (below_drew w3)) HNM.out (by have := HCN.out; omega))
  have HS0 := hid (show ∀ w', Rw (w.heap.size + 1 + 1) w3 w' → (fun w' => w'.cell? ⟨w2.heap.size, 0, none⟩ = some (.int .i64 kt) ∧ w'.cell? ⟨w2.heap.size, 1, none⟩ = some (.slice at' nt ct)) w' from fun w' h => ⟨h.cell y0 (by show w2.heap.size ≠ (w.heap.size + 1 + 1); omega), h.cell y1 (by show w2.heap.size ≠ (w.heap.size + 1 + 1); omega)⟩)
  clear h0
  go_wp2_with fail
  refine regionL (s := 7) (S0 := (fun w' => w'.cell? ⟨w2.heap.size, 0, none⟩ = some (.int .i64 kt) ∧ w'.cell? ⟨w2.heap.size, 1, none⟩ = some (.slice at' nt ct))) (S1 := (fun _ => True)) (by kernel_rfl) (HS0.out _ (Rw.drew HM3.out)) (trivial) (fun hS0 => ?_)
  refine takeL0 (i := 0) (v := ?vd1) rfl rfl (by kernel_rfl) (by kernel_rfl) (by kernel_rfl) (by decide) (by kernel_rfl) (by kernel_rfl) (fun _ _ _ h => h) (Or.inl ⟨by rfl, ?hyd1⟩) (by assumption) ?_
  case hyd1 => (intro w hSw; (try dsimp only at hSw); go_simp; (try with_reducible rfl))
  try simp only [Act.put, List.setIfInBounds_toArray, List.set_cons_zero, List.set_cons_succ]
  refine takeL0 (i := 1) (v := ?vd2) rfl rfl (by kernel_rfl) (by kernel_rfl) (by kernel_rfl) (by decide) (by kernel_rfl) (by kernel_rfl) (fun _ _ _ h => h) (Or.inl ⟨by rfl, ?hyd2⟩) (by assumption) ?_
  case hyd2 => (intro w hSw; (try dsimp only at hSw); go_simp; (try with_reducible rfl))
  try simp only [Act.put, List.setIfInBounds_toArray, List.set_cons_zero, List.set_cons_succ]
  refine takeL0 (i := 3) (v := ?vd3) rfl rfl (by kernel_rfl) (by kernel_rfl) (by kernel_rfl) (by decide) (by kernel_rfl) (by kernel_rfl) (fun _ _ _ h => h) (Or.inl ⟨by rfl, ?hyd3⟩) (by assumption) ?_
  case hyd3 => (intro w hSw; (try dsimp only at hSw); go_simp; (try with_reducible rfl))
  try simp only [Act.put, List.setIfInBounds_toArray, List.set_cons_zero, List.set_cons_succ]
  refine takeL0 (i := 4) (v := ?vd4) rfl rfl (by kernel_rfl) (by kernel_rfl) (by kernel_rfl) (by decide) (by kernel_rfl) (by kernel_rfl) (fun _ _ _ h => h) (Or.inl ⟨by rfl, ?hyd4⟩) (by assumption) ?_
  case hyd4 => (intro w hSw; (try dsimp only at hSw); go_simp; (try with_reducible rfl))
  try simp only [Act.put, List.setIfInBounds_toArray, List.set_cons_zero, List.set_cons_succ]
  refine readyL (rs := [2]) (by kernel_rfl) (by simp) ?_
  refine AllReadyL.cons rfl (fun K hK => ?_) AllReadyL.nil
  go_simp
  refine HM1.out.mono ?_
  rintro e w4 ⟨t1, v1, g1, rfl, -, hat1, hf1, hR4, hW4⟩
  obtain ⟨k1, n1, a1, c1, rfl⟩ := hat1.agg
  have hWa := (Rw.drew HM3.out).trans hW4
  have HN4 := hid (l6Near_any tt (w.heap.size + 1 + 1) 210 _ gt w4 (hR4.mono (by omega)) (by have := HCN.out; omega) (hWa.at HATT3.out HNM.out) HNM.out HSH.out)
  refine hK.out _ _ ?_ (fun hS1 => ?_)
  · exact ⟨trivial, fun _ => HS0.out _ hWa⟩
  clear hK K hS0
  try simp only [Act.put, List.setIfInBounds_toArray, List.set_cons_zero, List.set_cons_succ]
  refine readyL (rs := [5]) (by kernel_rfl) (by simp) ?_
  refine AllReadyL.cons rfl (fun K hK => ?_) AllReadyL.nil
  go_simp
  refine HN4.out.mono ?_
  rintro e w5 ⟨t2, v2, g2, rfl, -, hat2, hf2, hR5, hW5⟩
  obtain ⟨k2, n2, a2, c2, rfl⟩ := hat2.agg
  have hWb := hWa.trans hW5
  have hEa := hWb.block HER1.out (by omega)
  have hEb := hWb.block HER2.out (by omega)
  have z0 := (cell_of_block (o := 0) hEa)
  have z1 := (cell_of_block (o := 1) hEa)
  have zf := fun o => frozen_of_block (o := o) hEa
  have u0 := (cell_of_block (o := 0) hEb)
  have u1 := (cell_of_block (o := 1) hEb)
  have uf := fun o => frozen_of_block (o := o) hEb
  refine hK.out _ _ ?_ (fun hS2 => ?_)
  · exact ⟨trivial, fun _ => HS0.out _ hWb⟩
  clear hK K hS1
  try simp only [Act.put, List.setIfInBounds_toArray, List.set_cons_zero, List.set_cons_succ]
  refine readyL (rs := [6]) (by kernel_rfl) (by simp) ?_
  refine AllReadyL.cons rfl (fun K hK => ?_) AllReadyL.nil
  go_simp
  refine hK.out _ _ ?_ (fun hS3 => ?_)
  · exact ⟨trivial, fun _ => ⟨(cell_setCell_ne _ ⟨w.heap.size, 1, none⟩ _ _ _ (by show w2.heap.size ≠ w.heap.size; omega)).trans ((cell_setCell_ne _ ⟨w.heap.size, 0, none⟩ _ _ _ (by show w2.heap.size ≠ w.heap.size; omega)).trans (HS0.out _ hWb).1), (cell_setCell_ne _ ⟨w.heap.size, 1, none⟩ _ _ _ (by show w2.heap.size ≠ w.heap.size; omega)).trans ((cell_setCell_ne _ ⟨w.heap.size, 0, none⟩ _ _ _ (by show w2.heap.size ≠ w.heap.size; omega)).trans (HS0.out _ hWb).2)⟩⟩
  clear hK K hS2
  try simp only [Act.put, List.setIfInBounds_toArray, List.set_cons_zero, List.set_cons_succ]
  refine readyL (rs := [7]) (by kernel_rfl) (by simp) ?_
  refine AllReadyL.cons rfl (fun K hK => ?_) AllReadyL.nil
  go_simp
  refine hK.out _ _ ?_ (fun hS4 => ?_)
  · exact ⟨trivial, fun h => absurd (h.symm.trans (show _ = true by kernel_rfl)) (by decide)⟩
  clear hK K hS3
  try simp only [Act.put, List.setIfInBounds_toArray, List.set_cons_zero, List.set_cons_succ]
  refine doneL (by kernel_rfl) ?_ _
  have HF := hid (two_close (w := w) (R1 := w.heap.size) (R2 := w.heap.size + 1) (P := fun _ _ => True) trivial (hW5.at hat1 (fun b hb => by have h0 := hf1.ge b hb; have h1 : w3.heap.size ≤ b := (by simpa using h0); omega)) hat2 (fun b hb => by have h0 := hf1.ge b hb; have h1 : w3.heap.size ≤ b := (by simpa using h0); refine ⟨?_, ?_, ?_⟩ <;> omega) (fun b hb => by have h0 := hf2.ge b hb; have h1 := hWa.size; refine ⟨?_, ?_, ?_⟩ <;> omega) (fun b hb o => ((hW5.fresh hf1 (by have := HM3.out; first | omega | simpa using this)).2 b hb).2.2 o) (fun b hb o => (hf2.2 b hb).2.2 o) (HBW.out.trans (hWb.below.mono (by omega))) (Nat.le_refl _) (by omega))
  clear hat1 hat2 hf1 hf2 hR4 hR5 hW4 hW5 hWa hWb hEa hEb HN4
  go_wp2_with fail
  exact bodyPost_ret (v := .tuple #[.agg #[.int .i64 k1, .slice a1 n1 c1], .agg #[.int .i64 k2, .slice a2 n2 c2]]) (by simp [results, Try.results91, go_sem, z0, z1, u0, u1]) rfl HF.out

theorem drawSubtype_any (a : Option Addr) (n cap : Nat) (w : World) (hB : BytA w a n) (hn : n ≤ cap) (hm : cap ≤ maxLen) : Calls Try.prog 44 #[.slice a n cap] w (TwoX w (fun _ _ => True)) := by
  have hbA : Below w.heap.size w ((w.alloc (Obj.cells #[.int .i64 0, .slice none 0 0] 25)).alloc (Obj.cells #[.int .i64 0, .slice none 0 0] 25)) := ((Below.refl _ _).alloc (Nat.le_refl _) _).alloc (by simp) _
  obtain ⟨hE0, hE1⟩ := two9 (Below.refl (((w.alloc (Obj.cells #[.int .i64 0, .slice none 0 0] 25)).alloc (Obj.cells #[.int .i64 0, .slice none 0 0] 25))).heap.size ((w.alloc (Obj.cells #[.int .i64 0, .slice none 0 0] 25)).alloc (Obj.cells #[.int .i64 0, .slice none 0 0] 25)))
  have hsz : (((w.alloc (Obj.cells #[.int .i64 0, .slice none 0 0] 25)).alloc (Obj.cells #[.int .i64 0, .slice none 0 0] 25))).heap.size = w.heap.size + 1 + 1 := by simp
  have HD := hid (drawSub_any a n cap ((w.alloc (Obj.cells #[.int .i64 0, .slice none 0 0] 25)).alloc (Obj.cells #[.int .i64 0, .slice none 0 0] 25)) (hB.below hbA) hn hm)
  have HBA := hid hbA
  have HE := hid (And.intro hE0 hE1)
  clear hB hbA hE0 hE1
  go_enter Try.func44, Try.ntmps44
  go_wp2_with fail
  refine HD.out.mono ?_
  rintro e w1 ⟨t, u, v1, v2, f1, f2, rfl, -, h1, h2, g1, g2, hb⟩
  obtain ⟨k1, n1, a1, c1, rfl⟩ := h1.agg
  obtain ⟨k2, n2, a2, c2, rfl⟩ := h2.agg
  have hEa := (hb.block _ (by omega)).trans HE.out.1
  have hEb := (hb.block _ (by omega)).trans HE.out.2
  have z0 := (cell_of_block (o := 0) hEa)
  have z1 := (cell_of_block (o := 1) hEa)
  have zf := fun o => frozen_of_block (o := o) hEa
  have u0 := (cell_of_block (o := 0) hEb)
  have u1 := (cell_of_block (o := 1) hEb)
  have uf := fun o => frozen_of_block (o := o) hEb
  have HF := hid (two_close (w := w) (R1 := w.heap.size) (R2 := w.heap.size + 1) (P := fun _ _ => True) trivial h1 h2 (fun b hb => by have := (g1 b hb).1; refine ⟨?_, ?_, ?_⟩ <;> omega) (fun b hb => by have := (g2 b hb).1; refine ⟨?_, ?_, ?_⟩ <;> omega) (fun b hb o => (g1 b hb).2 o) (fun b hb o => (g2 b hb).2 o) (below_trans HBA.out hb) (Nat.le_refl _) (by omega))
  clear h1 h2 g1 g2 hb hEa hEb
  go_wp2_with fail
  exact bodyPost_ret (v := .tuple #[.agg #[.int .i64 k1, .slice a1 n1 c1], .agg #[.int .i64 k2, .slice a2 n2 c2]]) (by simp [results, Try.results44, go_sem, z0, z1, u0, u1]) rfl HF.out
end Go.Proofs.Ytelbpgdlcnnabaa

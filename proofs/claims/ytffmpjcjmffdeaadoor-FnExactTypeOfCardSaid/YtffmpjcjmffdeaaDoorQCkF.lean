/- The fitter that leaves operands whose types are consistent with the wanted ones. -/
import Derived.Test.YtffmpjcjmffdeaaDoorQChk
import Derived.Test.YtffmpjcjmffdeaaDoorQTyQ
namespace Go.Proofs.YtffmpjcjmffdeaaDoor
open Go.RowKit

def noI : Int → World → Prop := fun _ _ => True

theorem keep_noI : KeepI none noI := fun _ _ _ _ _ => trivial
theorem ul_none (S : Nat) : UL none S := fun u h => by cases h

set_option maxRecDepth 100000 in
set_option maxHeartbeats 2000000 in
theorem consFit_call (s : Int) (e : Tm) (t u : Ty) (ve vt vu : Value) (fe gt gu : List Nat) (w : World) (he : e.At w ve fe) (ht : t.At w vt gt) (hu : u.At w vu gu) :
    Calls Tryd.prog 201 #[.agg #[], ve, vt, vu] w (FitOut false none noI (fe ++ (gt ++ gu)) w (consF s e t u)) := by
  obtain ⟨q0, q1, q2, q3, q4, q5, q6, q7, q8, q9, q10, q11, q12, q13, q14, rfl⟩ := he.agg
  obtain ⟨kt, mt, at', ct, rfl⟩ := ht.agg
  obtain ⟨ku, mu, au, cu, rfl⟩ := hu.agg
  have hs1 : (w.alloc (Obj.cells #[] 83)).heap.size = w.heap.size + 1 := by simp
  have hb1 : Below w.heap.size w (w.alloc (Obj.cells #[] 83)) := (Below.refl _ _).alloc (Nat.le_refl _) _
  have HB := hid (show Below w.heap.size w (((((w.alloc (Obj.cells #[] 83)).alloc (Obj.cells #[.int .i64 q0, .string q1, .int .i64 q2, .int .i64 q3, .slice q5 q4 q6, .int .i64 q7, .slice q9 q8 q10, .int .i64 q11, .slice q13 q12 q14] 35)).alloc (Obj.cells #[.int .i64 kt, .slice at' mt ct] 32)).alloc (Obj.cells #[.int .i64 ku, .slice au mu cu] 32)).alloc (Obj.cells #[.int .i64 0, .string ⟨#[]⟩, .int .i64 0, .int .i64 0, .slice none 0 0, .int .i64 0, .slice none 0 0, .int .i64 0, .slice none 0 0] 35)) from below_trans hb1 (((((Below.refl _ _).alloc (Nat.le_refl _) _).alloc (by simp) _).alloc (by first | (simp; done) | (simp; omega)) _).alloc (by first | (simp; done) | (simp; omega)) _))
  obtain ⟨p1, p2, p3, p4⟩ := four_out (w := w.alloc (Obj.cells #[] 83)) (Below.refl ((((((w.alloc (Obj.cells #[] 83)).alloc (Obj.cells #[.int .i64 q0, .string q1, .int .i64 q2, .int .i64 q3, .slice q5 q4 q6, .int .i64 q7, .slice q9 q8 q10, .int .i64 q11, .slice q13 q12 q14] 35)).alloc (Obj.cells #[.int .i64 kt, .slice at' mt ct] 32)).alloc (Obj.cells #[.int .i64 ku, .slice au mu cu] 32)).alloc (Obj.cells #[.int .i64 0, .string ⟨#[]⟩, .int .i64 0, .int .i64 0, .slice none 0 0, .int .i64 0, .slice none 0 0, .int .i64 0, .slice none 0 0] 35))).heap.size (((((w.alloc (Obj.cells #[] 83)).alloc (Obj.cells #[.int .i64 q0, .string q1, .int .i64 q2, .int .i64 q3, .slice q5 q4 q6, .int .i64 q7, .slice q9 q8 q10, .int .i64 q11, .slice q13 q12 q14] 35)).alloc (Obj.cells #[.int .i64 kt, .slice at' mt ct] 32)).alloc (Obj.cells #[.int .i64 ku, .slice au mu cu] 32)).alloc (Obj.cells #[.int .i64 0, .string ⟨#[]⟩, .int .i64 0, .int .i64 0, .slice none 0 0, .int .i64 0, .slice none 0 0, .int .i64 0, .slice none 0 0] 35)))
  rw [hs1] at p1 p2 p3 p4
  have HQ := hid p4
  obtain ⟨z0, z1, z2, z3, z4, z5, z6, z7, z8⟩ := cells9 p1
  have x0 : ((((((w.alloc (Obj.cells #[] 83)).alloc (Obj.cells #[.int .i64 q0, .string q1, .int .i64 q2, .int .i64 q3, .slice q5 q4 q6, .int .i64 q7, .slice q9 q8 q10, .int .i64 q11, .slice q13 q12 q14] 35)).alloc (Obj.cells #[.int .i64 kt, .slice at' mt ct] 32)).alloc (Obj.cells #[.int .i64 ku, .slice au mu cu] 32)).alloc (Obj.cells #[.int .i64 0, .string ⟨#[]⟩, .int .i64 0, .int .i64 0, .slice none 0 0, .int .i64 0, .slice none 0 0, .int .i64 0, .slice none 0 0] 35))).cell? ⟨w.heap.size + 1 + 1, 0, none⟩ = some (.int .i64 kt) := by rw [cell_of_block p2]; rfl
  have x1 : ((((((w.alloc (Obj.cells #[] 83)).alloc (Obj.cells #[.int .i64 q0, .string q1, .int .i64 q2, .int .i64 q3, .slice q5 q4 q6, .int .i64 q7, .slice q9 q8 q10, .int .i64 q11, .slice q13 q12 q14] 35)).alloc (Obj.cells #[.int .i64 kt, .slice at' mt ct] 32)).alloc (Obj.cells #[.int .i64 ku, .slice au mu cu] 32)).alloc (Obj.cells #[.int .i64 0, .string ⟨#[]⟩, .int .i64 0, .int .i64 0, .slice none 0 0, .int .i64 0, .slice none 0 0, .int .i64 0, .slice none 0 0] 35))).cell? ⟨w.heap.size + 1 + 1, 1, none⟩ = some (.slice at' mt ct) := by rw [cell_of_block p2]; rfl
  have u0 : ((((((w.alloc (Obj.cells #[] 83)).alloc (Obj.cells #[.int .i64 q0, .string q1, .int .i64 q2, .int .i64 q3, .slice q5 q4 q6, .int .i64 q7, .slice q9 q8 q10, .int .i64 q11, .slice q13 q12 q14] 35)).alloc (Obj.cells #[.int .i64 kt, .slice at' mt ct] 32)).alloc (Obj.cells #[.int .i64 ku, .slice au mu cu] 32)).alloc (Obj.cells #[.int .i64 0, .string ⟨#[]⟩, .int .i64 0, .int .i64 0, .slice none 0 0, .int .i64 0, .slice none 0 0, .int .i64 0, .slice none 0 0] 35))).cell? ⟨w.heap.size + 1 + 1 + 1, 0, none⟩ = some (.int .i64 ku) := by rw [cell_of_block p3]; rfl
  have u1 : ((((((w.alloc (Obj.cells #[] 83)).alloc (Obj.cells #[.int .i64 q0, .string q1, .int .i64 q2, .int .i64 q3, .slice q5 q4 q6, .int .i64 q7, .slice q9 q8 q10, .int .i64 q11, .slice q13 q12 q14] 35)).alloc (Obj.cells #[.int .i64 kt, .slice at' mt ct] 32)).alloc (Obj.cells #[.int .i64 ku, .slice au mu cu] 32)).alloc (Obj.cells #[.int .i64 0, .string ⟨#[]⟩, .int .i64 0, .int .i64 0, .slice none 0 0, .int .i64 0, .slice none 0 0, .int .i64 0, .slice none 0 0] 35))).cell? ⟨w.heap.size + 1 + 1 + 1, 1, none⟩ = some (.slice au mu cu) := by rw [cell_of_block p3]; rfl
  have HS0 := hid (show ∀ W, Below ((((((w.alloc (Obj.cells #[] 83)).alloc (Obj.cells #[.int .i64 q0, .string q1, .int .i64 q2, .int .i64 q3, .slice q5 q4 q6, .int .i64 q7, .slice q9 q8 q10, .int .i64 q11, .slice q13 q12 q14] 35)).alloc (Obj.cells #[.int .i64 kt, .slice at' mt ct] 32)).alloc (Obj.cells #[.int .i64 ku, .slice au mu cu] 32)).alloc (Obj.cells #[.int .i64 0, .string ⟨#[]⟩, .int .i64 0, .int .i64 0, .slice none 0 0, .int .i64 0, .slice none 0 0, .int .i64 0, .slice none 0 0] 35))).heap.size (((((w.alloc (Obj.cells #[] 83)).alloc (Obj.cells #[.int .i64 q0, .string q1, .int .i64 q2, .int .i64 q3, .slice q5 q4 q6, .int .i64 q7, .slice q9 q8 q10, .int .i64 q11, .slice q13 q12 q14] 35)).alloc (Obj.cells #[.int .i64 kt, .slice at' mt ct] 32)).alloc (Obj.cells #[.int .i64 ku, .slice au mu cu] 32)).alloc (Obj.cells #[.int .i64 0, .string ⟨#[]⟩, .int .i64 0, .int .i64 0, .slice none 0 0, .int .i64 0, .slice none 0 0, .int .i64 0, .slice none 0 0] 35)) W → (W.cell? ⟨w.heap.size + 1, 0, none⟩ = some (.int .i64 q0) ∧ W.cell? ⟨w.heap.size + 1, 1, none⟩ = some (.string q1) ∧ W.cell? ⟨w.heap.size + 1, 2, none⟩ = some (.int .i64 q2) ∧ W.cell? ⟨w.heap.size + 1, 3, none⟩ = some (.int .i64 q3) ∧ W.cell? ⟨w.heap.size + 1, 4, none⟩ = some (.slice q5 q4 q6) ∧ W.cell? ⟨w.heap.size + 1, 5, none⟩ = some (.int .i64 q7) ∧ W.cell? ⟨w.heap.size + 1, 6, none⟩ = some (.slice q9 q8 q10) ∧ W.cell? ⟨w.heap.size + 1, 7, none⟩ = some (.int .i64 q11) ∧ W.cell? ⟨w.heap.size + 1, 8, none⟩ = some (.slice q13 q12 q14) ∧ W.cell? ⟨w.heap.size + 1 + 1, 0, none⟩ = some (.int .i64 kt) ∧ W.cell? ⟨w.heap.size + 1 + 1, 1, none⟩ = some (.slice at' mt ct) ∧ W.cell? ⟨w.heap.size + 1 + 1 + 1, 0, none⟩ = some (.int .i64 ku) ∧ W.cell? ⟨w.heap.size + 1 + 1 + 1, 1, none⟩ = some (.slice au mu cu)) from fun W hB => ⟨cell_keep z0 hB, cell_keep z1 hB, cell_keep z2 hB, cell_keep z3 hB, cell_keep z4 hB, cell_keep z5 hB, cell_keep z6 hB, cell_keep z7 hB, cell_keep z8 hB, cell_keep x0 hB, cell_keep x1 hB, cell_keep u0 hB, cell_keep u1 hB⟩)
  have HSP := hid (show ∀ W, Below ((((((w.alloc (Obj.cells #[] 83)).alloc (Obj.cells #[.int .i64 q0, .string q1, .int .i64 q2, .int .i64 q3, .slice q5 q4 q6, .int .i64 q7, .slice q9 q8 q10, .int .i64 q11, .slice q13 q12 q14] 35)).alloc (Obj.cells #[.int .i64 kt, .slice at' mt ct] 32)).alloc (Obj.cells #[.int .i64 ku, .slice au mu cu] 32)).alloc (Obj.cells #[.int .i64 0, .string ⟨#[]⟩, .int .i64 0, .int .i64 0, .slice none 0 0, .int .i64 0, .slice none 0 0, .int .i64 0, .slice none 0 0] 35))).heap.size (((((w.alloc (Obj.cells #[] 83)).alloc (Obj.cells #[.int .i64 q0, .string q1, .int .i64 q2, .int .i64 q3, .slice q5 q4 q6, .int .i64 q7, .slice q9 q8 q10, .int .i64 q11, .slice q13 q12 q14] 35)).alloc (Obj.cells #[.int .i64 kt, .slice at' mt ct] 32)).alloc (Obj.cells #[.int .i64 ku, .slice au mu cu] 32)).alloc (Obj.cells #[.int .i64 0, .string ⟨#[]⟩, .int .i64 0, .int .i64 0, .slice none 0 0, .int .i64 0, .slice none 0 0, .int .i64 0, .slice none 0 0] 35)) W → ((put W (w.heap.size + 1 + 1 + 1 + 1) 0 [.int .i64 q0, .string q1, .int .i64 q2, .int .i64 q3, .slice q5 q4 q6, .int .i64 q7, .slice q9 q8 q10, .int .i64 q11, .slice q13 q12 q14]).cell? ⟨w.heap.size + 1, 0, none⟩ = some (.int .i64 q0) ∧ (put W (w.heap.size + 1 + 1 + 1 + 1) 0 [.int .i64 q0, .string q1, .int .i64 q2, .int .i64 q3, .slice q5 q4 q6, .int .i64 q7, .slice q9 q8 q10, .int .i64 q11, .slice q13 q12 q14]).cell? ⟨w.heap.size + 1, 1, none⟩ = some (.string q1) ∧ (put W (w.heap.size + 1 + 1 + 1 + 1) 0 [.int .i64 q0, .string q1, .int .i64 q2, .int .i64 q3, .slice q5 q4 q6, .int .i64 q7, .slice q9 q8 q10, .int .i64 q11, .slice q13 q12 q14]).cell? ⟨w.heap.size + 1, 2, none⟩ = some (.int .i64 q2) ∧ (put W (w.heap.size + 1 + 1 + 1 + 1) 0 [.int .i64 q0, .string q1, .int .i64 q2, .int .i64 q3, .slice q5 q4 q6, .int .i64 q7, .slice q9 q8 q10, .int .i64 q11, .slice q13 q12 q14]).cell? ⟨w.heap.size + 1, 3, none⟩ = some (.int .i64 q3) ∧ (put W (w.heap.size + 1 + 1 + 1 + 1) 0 [.int .i64 q0, .string q1, .int .i64 q2, .int .i64 q3, .slice q5 q4 q6, .int .i64 q7, .slice q9 q8 q10, .int .i64 q11, .slice q13 q12 q14]).cell? ⟨w.heap.size + 1, 4, none⟩ = some (.slice q5 q4 q6) ∧ (put W (w.heap.size + 1 + 1 + 1 + 1) 0 [.int .i64 q0, .string q1, .int .i64 q2, .int .i64 q3, .slice q5 q4 q6, .int .i64 q7, .slice q9 q8 q10, .int .i64 q11, .slice q13 q12 q14]).cell? ⟨w.heap.size + 1, 5, none⟩ = some (.int .i64 q7) ∧ (put W (w.heap.size + 1 + 1 + 1 + 1) 0 [.int .i64 q0, .string q1, .int .i64 q2, .int .i64 q3, .slice q5 q4 q6, .int .i64 q7, .slice q9 q8 q10, .int .i64 q11, .slice q13 q12 q14]).cell? ⟨w.heap.size + 1, 6, none⟩ = some (.slice q9 q8 q10) ∧ (put W (w.heap.size + 1 + 1 + 1 + 1) 0 [.int .i64 q0, .string q1, .int .i64 q2, .int .i64 q3, .slice q5 q4 q6, .int .i64 q7, .slice q9 q8 q10, .int .i64 q11, .slice q13 q12 q14]).cell? ⟨w.heap.size + 1, 7, none⟩ = some (.int .i64 q11) ∧ (put W (w.heap.size + 1 + 1 + 1 + 1) 0 [.int .i64 q0, .string q1, .int .i64 q2, .int .i64 q3, .slice q5 q4 q6, .int .i64 q7, .slice q9 q8 q10, .int .i64 q11, .slice q13 q12 q14]).cell? ⟨w.heap.size + 1, 8, none⟩ = some (.slice q13 q12 q14) ∧ (put W (w.heap.size + 1 + 1 + 1 + 1) 0 [.int .i64 q0, .string q1, .int .i64 q2, .int .i64 q3, .slice q5 q4 q6, .int .i64 q7, .slice q9 q8 q10, .int .i64 q11, .slice q13 q12 q14]).cell? ⟨w.heap.size + 1 + 1, 0, none⟩ = some (.int .i64 kt) ∧ (put W (w.heap.size + 1 + 1 + 1 + 1) 0 [.int .i64 q0, .string q1, .int .i64 q2, .int .i64 q3, .slice q5 q4 q6, .int .i64 q7, .slice q9 q8 q10, .int .i64 q11, .slice q13 q12 q14]).cell? ⟨w.heap.size + 1 + 1, 1, none⟩ = some (.slice at' mt ct) ∧ (put W (w.heap.size + 1 + 1 + 1 + 1) 0 [.int .i64 q0, .string q1, .int .i64 q2, .int .i64 q3, .slice q5 q4 q6, .int .i64 q7, .slice q9 q8 q10, .int .i64 q11, .slice q13 q12 q14]).cell? ⟨w.heap.size + 1 + 1 + 1, 0, none⟩ = some (.int .i64 ku) ∧ (put W (w.heap.size + 1 + 1 + 1 + 1) 0 [.int .i64 q0, .string q1, .int .i64 q2, .int .i64 q3, .slice q5 q4 q6, .int .i64 q7, .slice q9 q8 q10, .int .i64 q11, .slice q13 q12 q14]).cell? ⟨w.heap.size + 1 + 1 + 1, 1, none⟩ = some (.slice au mu cu)) from fun W hB => by
    have hN : ∀ b o v, b ≠ w.heap.size + 1 + 1 + 1 + 1 → W.cell? ⟨b, o, none⟩ = some v → (put W (w.heap.size + 1 + 1 + 1 + 1) 0 [.int .i64 q0, .string q1, .int .i64 q2, .int .i64 q3, .slice q5 q4 q6, .int .i64 q7, .slice q9 q8 q10, .int .i64 q11, .slice q13 q12 q14]).cell? ⟨b, o, none⟩ = some v := fun b o v hb h => (putB hb o).1.trans h
    obtain ⟨h0, h1, h2, h3, h4, h5, h6, h7, h8, h9, h10, h11, h12⟩ := HS0.out W hB
    exact ⟨hN _ _ _ (by omega) h0, hN _ _ _ (by omega) h1, hN _ _ _ (by omega) h2, hN _ _ _ (by omega) h3, hN _ _ _ (by omega) h4, hN _ _ _ (by omega) h5, hN _ _ _ (by omega) h6, hN _ _ _ (by omega) h7, hN _ _ _ (by omega) h8, hN _ _ _ (by omega) h9, hN _ _ _ (by omega) h10, hN _ _ _ (by omega) h11, hN _ _ _ (by omega) h12⟩)
  simp only [put, Nat.zero_add, Nat.reduceAdd] at HSP
  have HCON := hid (fun (W : World) (hB : Below ((((((w.alloc (Obj.cells #[] 83)).alloc (Obj.cells #[.int .i64 q0, .string q1, .int .i64 q2, .int .i64 q3, .slice q5 q4 q6, .int .i64 q7, .slice q9 q8 q10, .int .i64 q11, .slice q13 q12 q14] 35)).alloc (Obj.cells #[.int .i64 kt, .slice at' mt ct] 32)).alloc (Obj.cells #[.int .i64 ku, .slice au mu cu] 32)).alloc (Obj.cells #[.int .i64 0, .string ⟨#[]⟩, .int .i64 0, .int .i64 0, .slice none 0 0, .int .i64 0, .slice none 0 0, .int .i64 0, .slice none 0 0] 35))).heap.size (((((w.alloc (Obj.cells #[] 83)).alloc (Obj.cells #[.int .i64 q0, .string q1, .int .i64 q2, .int .i64 q3, .slice q5 q4 q6, .int .i64 q7, .slice q9 q8 q10, .int .i64 q11, .slice q13 q12 q14] 35)).alloc (Obj.cells #[.int .i64 kt, .slice at' mt ct] 32)).alloc (Obj.cells #[.int .i64 ku, .slice au mu cu] 32)).alloc (Obj.cells #[.int .i64 0, .string ⟨#[]⟩, .int .i64 0, .int .i64 0, .slice none 0 0, .int .i64 0, .slice none 0 0, .int .i64 0, .slice none 0 0] 35)) W) => implConsistent t u _ _ gt gu W (ht.below (below_trans HB.out hB)) (hu.below (below_trans HB.out hB)))
  have HFIN := hid (show ∀ W, Below ((((((w.alloc (Obj.cells #[] 83)).alloc (Obj.cells #[.int .i64 q0, .string q1, .int .i64 q2, .int .i64 q3, .slice q5 q4 q6, .int .i64 q7, .slice q9 q8 q10, .int .i64 q11, .slice q13 q12 q14] 35)).alloc (Obj.cells #[.int .i64 kt, .slice at' mt ct] 32)).alloc (Obj.cells #[.int .i64 ku, .slice au mu cu] 32)).alloc (Obj.cells #[.int .i64 0, .string ⟨#[]⟩, .int .i64 0, .int .i64 0, .slice none 0 0, .int .i64 0, .slice none 0 0, .int .i64 0, .slice none 0 0] 35))).heap.size (((((w.alloc (Obj.cells #[] 83)).alloc (Obj.cells #[.int .i64 q0, .string q1, .int .i64 q2, .int .i64 q3, .slice q5 q4 q6, .int .i64 q7, .slice q9 q8 q10, .int .i64 q11, .slice q13 q12 q14] 35)).alloc (Obj.cells #[.int .i64 kt, .slice at' mt ct] 32)).alloc (Obj.cells #[.int .i64 ku, .slice au mu cu] 32)).alloc (Obj.cells #[.int .i64 0, .string ⟨#[]⟩, .int .i64 0, .int .i64 0, .slice none 0 0, .int .i64 0, .slice none 0 0, .int .i64 0, .slice none 0 0] 35)) W → FitOut false none noI (fe ++ (gt ++ gu)) w (consF s e t u) (.returned (.tuple #[.agg #[.int .i64 q0, .string q1, .int .i64 q2, .int .i64 q3, .slice q5 q4 q6, .int .i64 q7, .slice q9 q8 q10, .int .i64 q11, .slice q13 q12 q14], .bool (consOf t u)])) (put W (w.heap.size + 1 + 1 + 1 + 1) 0 [.int .i64 q0, .string q1, .int .i64 q2, .int .i64 q3, .slice q5 q4 q6, .int .i64 q7, .slice q9 q8 q10, .int .i64 q11, .slice q13 q12 q14]) from fun W hB => by
    have hbw := below_trans HB.out hB
    refine ⟨e, _, _, _, _, _, _, _, _, _, _, _, _, _, _, _, fe, ?_, (he.below hbw).putne (fun b hb => by have := he.lt b hb; omega), fun p h => ?_, fun b hb => ⟨.inl (by simp [hb]), Gd.free _ _⟩, Bo.of_below (below_put hbw (by omega)), trivial⟩
    · unfold consF
      cases consOf t u <;> rfl
    · unfold consF at h
      cases hc : consOf t u with
      | false => rw [hc] at h; simp at h
      | true => rw [hc] at h; simp only [if_true, Option.some.injEq] at h; exact h.symm)
  generalize consOf t u = cc at *
  clear he ht hu hs1 hb1 p1 p2 p3 p4 z0 z1 z2 z3 z4 z5 z6 z7 z8 x0 x1 u0 u1 HB
  go_enter Tryd.func201, Tryd.ntmps201
  go_wp2_with fail
  refine regionL (s := 5) (S0 := (fun w' => w'.cell? ⟨w.heap.size + 1, 0, none⟩ = some (.int .i64 q0) ∧ w'.cell? ⟨w.heap.size + 1, 1, none⟩ = some (.string q1) ∧ w'.cell? ⟨w.heap.size + 1, 2, none⟩ = some (.int .i64 q2) ∧ w'.cell? ⟨w.heap.size + 1, 3, none⟩ = some (.int .i64 q3) ∧ w'.cell? ⟨w.heap.size + 1, 4, none⟩ = some (.slice q5 q4 q6) ∧ w'.cell? ⟨w.heap.size + 1, 5, none⟩ = some (.int .i64 q7) ∧ w'.cell? ⟨w.heap.size + 1, 6, none⟩ = some (.slice q9 q8 q10) ∧ w'.cell? ⟨w.heap.size + 1, 7, none⟩ = some (.int .i64 q11) ∧ w'.cell? ⟨w.heap.size + 1, 8, none⟩ = some (.slice q13 q12 q14) ∧ w'.cell? ⟨w.heap.size + 1 + 1, 0, none⟩ = some (.int .i64 kt) ∧ w'.cell? ⟨w.heap.size + 1 + 1, 1, none⟩ = some (.slice at' mt ct) ∧ w'.cell? ⟨w.heap.size + 1 + 1 + 1, 0, none⟩ = some (.int .i64 ku) ∧ w'.cell? ⟨w.heap.size + 1 + 1 + 1, 1, none⟩ = some (.slice au mu cu))) (S1 := (fun _ => True)) (by kernel_rfl) (HS0.out _ (below_drew _)) (trivial) (fun hS0 => ?_)
  refine takeL0 (i := 0) (v := ?vf1) rfl rfl (by kernel_rfl) (by kernel_rfl) (by kernel_rfl) (by decide) (by kernel_rfl) (by kernel_rfl) (fun _ _ _ h => h) (Or.inl ⟨by rfl, ?hyf1⟩) (by assumption) ?_
  case hyf1 => (intro w hSw; (try dsimp only at hSw); go_simp; (try with_reducible rfl))
  try simp only [Act.put, List.setIfInBounds_toArray, List.set_cons_zero, List.set_cons_succ]
  refine takeL0 (i := 1) (v := ?vf2) rfl rfl (by kernel_rfl) (by kernel_rfl) (by kernel_rfl) (by decide) (by kernel_rfl) (by kernel_rfl) (fun _ _ _ h => h) (Or.inl ⟨by rfl, ?hyf2⟩) (by assumption) ?_
  case hyf2 => (intro w hSw; (try dsimp only at hSw); go_simp; (try with_reducible rfl))
  try simp only [Act.put, List.setIfInBounds_toArray, List.set_cons_zero, List.set_cons_succ]
  refine takeL0 (i := 2) (v := ?vf3) rfl rfl (by kernel_rfl) (by kernel_rfl) (by kernel_rfl) (by decide) (by kernel_rfl) (by kernel_rfl) (fun _ _ _ h => h) (Or.inl ⟨by rfl, ?hyf3⟩) (by assumption) ?_
  case hyf3 => (intro w hSw; (try dsimp only at hSw); go_simp; (try with_reducible rfl))
  try simp only [Act.put, List.setIfInBounds_toArray, List.set_cons_zero, List.set_cons_succ]
  refine readyL (rs := [3]) (by kernel_rfl) (by simp) ?_
  refine AllReadyL.cons rfl (fun K hK => ?_) AllReadyL.nil
  go_simp
  refine (HCON.out _ (below_drew _)).mono ?_
  rintro e1 w1 ⟨rfl, hb1⟩
  have hB1 := below_trans (below_drew (((((w.alloc (Obj.cells #[] 83)).alloc (Obj.cells #[.int .i64 q0, .string q1, .int .i64 q2, .int .i64 q3, .slice q5 q4 q6, .int .i64 q7, .slice q9 q8 q10, .int .i64 q11, .slice q13 q12 q14] 35)).alloc (Obj.cells #[.int .i64 kt, .slice at' mt ct] 32)).alloc (Obj.cells #[.int .i64 ku, .slice au mu cu] 32)).alloc (Obj.cells #[.int .i64 0, .string ⟨#[]⟩, .int .i64 0, .int .i64 0, .slice none 0 0, .int .i64 0, .slice none 0 0, .int .i64 0, .slice none 0 0] 35))) hb1
  refine hK.out _ _ ?_ (fun hS1 => ?_)
  · exact ⟨trivial, fun _ => HS0.out _ hB1⟩
  clear hK K hS0
  try simp only [Act.put, List.setIfInBounds_toArray, List.set_cons_zero, List.set_cons_succ]
  refine readyL (rs := [4]) (by kernel_rfl) (by simp) ?_
  refine AllReadyL.cons rfl (fun K hK => ?_) AllReadyL.nil
  have hQ := (hB1.block _ (lt_of_block HQ.out)).trans HQ.out
  obtain ⟨y0, y1, y2, y3, y4, y5, y6, y7, y8⟩ := cells9 hQ
  have yz := fun o => frozen_of_block (o := o) hQ
  have yl := lt_of_block hQ
  go_simp
  refine hK.out _ _ ?_ (fun hS2 => ?_)
  · exact ⟨trivial, fun _ => HSP.out _ hB1⟩
  clear hK K hS1
  try simp only [Act.put, List.setIfInBounds_toArray, List.set_cons_zero, List.set_cons_succ]
  refine readyL (rs := [5]) (by kernel_rfl) (by simp) ?_
  refine AllReadyL.cons rfl (fun K hK => ?_) AllReadyL.nil
  go_simp
  refine hK.out _ _ ?_ (fun hS3 => ?_)
  · exact ⟨trivial, fun h => absurd (h.symm.trans (show _ = true by kernel_rfl)) (by decide)⟩
  clear hK K hS2
  try simp only [Act.put, List.setIfInBounds_toArray, List.set_cons_zero, List.set_cons_succ]
  refine doneL (by kernel_rfl) ?_ _
  have FIN := hid (HFIN.out w1 hB1)
  simp only [put, Nat.zero_add, Nat.reduceAdd] at FIN
  clear hb1 hB1 HFIN HCON HS0 HSP HQ hQ
  go_wp2_with fail
  exact bodyPost_ret (v := .tuple #[.agg #[.int .i64 q0, .string q1, .int .i64 q2, .int .i64 q3, .slice q5 q4 q6, .int .i64 q7, .slice q9 q8 q10, .int .i64 q11, .slice q13 q12 q14], .bool cc]) (by simp [results, Tryd.results201, go_sem, y0, y1, y2, y3, y4, y5, y6, y7, y8]) rfl FIN.out

theorem cf_meth (w : World) : (method (Tryd.prog.types.size + Made.depth) 83 (.agg #[]) "loop.example/gradual/impl.fit").run Tryd.prog w = .ok (201, .agg #[]) w := by kernel_rfl
theorem cf_ahead (w : World) : (nilAhead (Tryd.prog.types.size + Made.depth) 83 (.agg #[]) "loop.example/gradual/impl.fit").run Tryd.prog w = .ok (some false) w := by kernel_rfl

theorem consFit : FitC false none noI consF 83 (.agg #[]) 201 (.agg #[]) where
  meth := fun N w h => by rw [h]; exact cf_meth w
  ahead := fun N w h => by rw [h]; exact cf_ahead w
  enter := fun args w => by kernel_rfl
  call := fun s e t u ve vt vu fe gt gu w he ht hu _ _ _ _ => consFit_call s e t u ve vt vu fe gt gu w he ht hu

theorem check_cons (t : Tm) : ChC false none noI consF 83 (.agg #[]) t := Tm.ind (check_of consFit keep_noI) t
end Go.Proofs.YtffmpjcjmffdeaaDoor

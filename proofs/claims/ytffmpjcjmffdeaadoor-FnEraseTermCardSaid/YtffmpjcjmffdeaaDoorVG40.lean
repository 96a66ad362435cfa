/- Draws of terms: DrawTermValid. Draws of a term: DrawEraseTerm. -/
import Derived.Test.YtffmpjcjmffdeaaDoorVDm4
import Derived.Test.YtffmpjcjmffdeaaDoorVG18
import Derived.Test.YtffmpjcjmffdeaaDoorVG14
namespace Go.Proofs.YtffmpjcjmffdeaaDoor
open Go.RowKit

/-- What a draw of one term says. -/
def OneM (w : World) (e : Ending) (w' : World) : Prop := ∃ (t : Tm) (v : Value) (f : List Nat), e = .returned v ∧ t.sz ≤ 100000 ∧ t.At w' v f ∧ (∀ b ∈ f, w.heap.size ≤ b ∧ ∀ o, w'.frozen? ⟨b, o, none⟩ = false) ∧ Below w.heap.size w w'

set_option maxRecDepth 100000 in
set_option maxHeartbeats 4000000 in
theorem drawTermValid_any (a : Option Addr) (n cap : Nat) (w : World) (hB : BytA w a n) (hn : n ≤ cap) (hm : cap ≤ maxLen) : Calls Tryd.prog 80 #[.slice a n cap] w (OneM w) := by
  have hbA : Below w.heap.size w (w.alloc (Obj.cells #[.int .i64 0, .string ⟨#[]⟩, .int .i64 0, .int .i64 0, .slice none 0 0, .int .i64 0, .slice none 0 0, .int .i64 0, .slice none 0 0] 35)) := (Below.refl _ _).alloc (Nat.le_refl _) _
  have hE0 := alloc_new w (Obj.cells #[.int .i64 0, .string ⟨#[]⟩, .int .i64 0, .int .i64 0, .slice none 0 0, .int .i64 0, .slice none 0 0, .int .i64 0, .slice none 0 0] 35)
  have hsz : (w.alloc (Obj.cells #[.int .i64 0, .string ⟨#[]⟩, .int .i64 0, .int .i64 0, .slice none 0 0, .int .i64 0, .slice none 0 0, .int .i64 0, .slice none 0 0] 35)).heap.size = w.heap.size + 1 := by simp
  have HO := hid (open_any a n cap (w.alloc (Obj.cells #[.int .i64 0, .string ⟨#[]⟩, .int .i64 0, .int .i64 0, .slice none 0 0, .int .i64 0, .slice none 0 0, .int .i64 0, .slice none 0 0] 35)) (hB.below hbA) hn hm)
  rw [hsz] at HO
  have HBA := hid hbA
  have HE := hid hE0
  clear hB hbA hE0
  go_enter Tryd.func80, Tryd.ntmps80
  go_wp2_with fail
  refine HO.out.mono ?_
  rintro e w1 ⟨rfl, hR1, hb1⟩
  have hb1' : Below (w.alloc (Obj.cells #[.int .i64 0, .string ⟨#[]⟩, .int .i64 0, .int .i64 0, .slice none 0 0, .int .i64 0, .slice none 0 0, .int .i64 0, .slice none 0 0] 35)).heap.size (w.alloc (Obj.cells #[.int .i64 0, .string ⟨#[]⟩, .int .i64 0, .int .i64 0, .slice none 0 0, .int .i64 0, .slice none 0 0, .int .i64 0, .slice none 0 0] 35)) w1 := by rw [hsz]; exact hb1
  have HER1 := hid ((hb1'.block _ (by omega)).trans HE.out)
  have HBW := hid (HBA.out.trans (hb1'.mono (by omega)))
  have HT := hid (l2Term_any (w.heap.size + 1) 0 w1 hR1 (by omega))
  have hs1 := hR1.lt
  clear hb1 hb1' hR1 HE
  go_wp2_with fail
  refine HT.out.mono ?_
  rintro e w2 ⟨t, v, g, rfl, hts, hat, hf, hR2, hW2⟩
  have hs2 := hW2.size
  have HER2 := hid (hW2.block HER1.out (by omega))
  have HBW2 := hid (HBW.out.trans (hW2.below.mono (by omega)))
  have HM := hid (l2Mutate_any t (w.heap.size + 1) (0 + 46000) 41000 _ g w2 hR2 (by omega) hat hts (by omega))
  obtain ⟨q0, q1, q2, q3, q4, q5, q6, q7, q8, q9, q10, q11, q12, q13, q14, rfl⟩ := hat.agg
  clear hts hat hf hR2 hW2 HER1 HBW
  go_wp2_with fail
  refine HM.out.mono ?_
  rintro e w3 ⟨t3, v3, g3, rfl, hts3, hat3, hf3, hR3, hW3⟩
  obtain ⟨j0, j1, j2, j3, j4, j5, j6, j7, j8, j9, j10, j11, j12, j13, j14, rfl⟩ := hat3.agg
  have hE3 := hW3.block HER2.out (by omega)
  have hs3 := lt_of_block hE3
  have r0 := cell_of_block (o := 0) hE3
  have r1 := cell_of_block (o := 1) hE3
  have r2 := cell_of_block (o := 2) hE3
  have r3 := cell_of_block (o := 3) hE3
  have r4 := cell_of_block (o := 4) hE3
  have r5 := cell_of_block (o := 5) hE3
  have r6 := cell_of_block (o := 6) hE3
  have r7 := cell_of_block (o := 7) hE3
  have r8 := cell_of_block (o := 8) hE3
  have rz := fun o => frozen_of_block (o := o) hE3
  have hab : Above (w.heap.size + 1) w3 (put w3 w.heap.size 0 (#[.int .i64 j0, .string j1, .int .i64 j2, .int .i64 j3, .slice j5 j4 j6, .int .i64 j7, .slice j9 j8 j10, .int .i64 j11, .slice j13 j12 j14]).toList) := (Above.refl _ _).put (Nat.lt_succ_self _)
  have hft := hf3.above hab (by omega)
  have FIN := hid (show OneM w (.returned (.agg #[.int .i64 j0, .string j1, .int .i64 j2, .int .i64 j3, .slice j5 j4 j6, .int .i64 j7, .slice j9 j8 j10, .int .i64 j11, .slice j13 j12 j14])) (put w3 w.heap.size 0 (#[.int .i64 j0, .string j1, .int .i64 j2, .int .i64 j3, .slice j5 j4 j6, .int .i64 j7, .slice j9 j8 j10, .int .i64 j11, .slice j13 j12 j14]).toList) from ⟨t3, _, g3, rfl, by omega, hat3.above hab (fun b hb => by have := hf3.ge b hb; omega), fun b hb => ⟨by have := hf3.ge b hb; omega, (hft.2 b hb).2.2⟩, below_put (HBW2.out.trans (hW3.below.mono (by omega))) (Nat.le_refl _)⟩)
  clear hat3 hf3 hR3 hW3 hE3 hab hft
  go_wp2_with fail
  exact bodyPost_ret (v := .agg #[.int .i64 j0, .string j1, .int .i64 j2, .int .i64 j3, .slice j5 j4 j6, .int .i64 j7, .slice j9 j8 j10, .int .i64 j11, .slice j13 j12 j14]) (by simp [results, Tryd.results80, go_sem, r0, r1, r2, r3, r4, r5, r6, r7, r8]) rfl FIN.out
end Go.Proofs.YtffmpjcjmffdeaaDoor

namespace Go.Proofs.YtffmpjcjmffdeaaDoor
open Go.RowKit

set_option maxRecDepth 100000 in
set_option maxHeartbeats 2000000 in
theorem drawEraseTerm_any (a : Option Addr) (n cap : Nat) (w : World) (hB : BytA w a n) (hn : n ≤ cap) (hm : cap ≤ maxLen) : Calls Tryd.prog 32 #[.slice a n cap] w (OneM w) := by
  have hbA : Below w.heap.size w (w.alloc (Obj.cells #[.int .i64 0, .string ⟨#[]⟩, .int .i64 0, .int .i64 0, .slice none 0 0, .int .i64 0, .slice none 0 0, .int .i64 0, .slice none 0 0] 35)) := (Below.refl _ _).alloc (Nat.le_refl _) _
  have HE := hid (alloc_new w (Obj.cells #[.int .i64 0, .string ⟨#[]⟩, .int .i64 0, .int .i64 0, .slice none 0 0, .int .i64 0, .slice none 0 0, .int .i64 0, .slice none 0 0] 35))
  have HD := hid (drawTermValid_any a n cap (w.alloc (Obj.cells #[.int .i64 0, .string ⟨#[]⟩, .int .i64 0, .int .i64 0, .slice none 0 0, .int .i64 0, .slice none 0 0, .int .i64 0, .slice none 0 0] 35)) (hB.below hbA) hn hm)
  have HBA := hid hbA
  clear hB hbA
  go_enter Tryd.func32, Tryd.ntmps32
  go_wp2_with fail
  refine HD.out.mono ?_
  rintro e w3 ⟨t, v, f, rfl, hts, hat, hf, hb⟩
  obtain ⟨j0, j1, j2, j3, j4, j5, j6, j7, j8, j9, j10, j11, j12, j13, j14, rfl⟩ := hat.agg
  have hE3 := (hb.block _ (lt_of_block HE.out)).trans HE.out
  have hs3 := lt_of_block hE3
  obtain ⟨r0, r1, r2, r3, r4, r5, r6, r7, r8⟩ := cells9 hE3
  have rz := fun o => frozen_of_block (o := o) hE3
  have hge : ∀ b ∈ f, w.heap.size < b := fun b hm => by have h1 := (hf b hm).1; have h2 : (w.alloc (Obj.cells #[.int .i64 0, .string ⟨#[]⟩, .int .i64 0, .int .i64 0, .slice none 0 0, .int .i64 0, .slice none 0 0, .int .i64 0, .slice none 0 0] 35)).heap.size = w.heap.size + 1 := (by simp); omega
  have FIN := hid (show OneM w (.returned (.agg #[.int .i64 j0, .string j1, .int .i64 j2, .int .i64 j3, .slice j5 j4 j6, .int .i64 j7, .slice j9 j8 j10, .int .i64 j11, .slice j13 j12 j14])) (put w3 w.heap.size 0 [.int .i64 j0, .string j1, .int .i64 j2, .int .i64 j3, .slice j5 j4 j6, .int .i64 j7, .slice j9 j8 j10, .int .i64 j11, .slice j13 j12 j14]) from
    ⟨t, _, f, rfl, hts, hat.congr fun b hm o => World.cell?_of_block (w := w3) (a := ⟨b, o, none⟩) (heap_put_ne (show b ≠ w.heap.size from by have := hge b hm; omega)), fun b hm => ⟨by have := hge b hm; omega, fun o => (World.frozen?_of_block (w := w3) (a := ⟨b, o, none⟩) (heap_put_ne (show b ≠ w.heap.size from by have := hge b hm; omega))).trans ((hf b hm).2 o)⟩, below_put (below_trans HBA.out hb) (Nat.le_refl _)⟩)
  simp only [put, Nat.zero_add, Nat.reduceAdd] at FIN
  clear hat hf hb hE3 hge hts HE HD HBA
  go_wp2_with fail
  exact bodyPost_ret (v := .agg #[.int .i64 j0, .string j1, .int .i64 j2, .int .i64 j3, .slice j5 j4 j6, .int .i64 j7, .slice j9 j8 j10, .int .i64 j11, .slice j13 j12 j14]) (by simp [results, Tryd.results32, go_sem, r0, r1, r2, r3, r4, r5, r6, r7, r8]) rfl FIN.out
end Go.Proofs.YtffmpjcjmffdeaaDoor

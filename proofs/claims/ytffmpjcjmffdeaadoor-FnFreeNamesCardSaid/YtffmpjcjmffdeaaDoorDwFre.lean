/- Draws of a term: DrawFreeNames. -/
import Derived.Test.YtffmpjcjmffdeaaDoorDnV
import Derived.Test.YtffmpjcjmffdeaaDoorBx
namespace Go.Proofs.YtffmpjcjmffdeaaDoor
open Go.RowKit

set_option maxRecDepth 100000 in
set_option maxHeartbeats 2000000 in
theorem drawFreeNames_any (a : Option Addr) (n cap : Nat) (w : World) (hB : BytA w a n) (hn : n ≤ cap) (hm : cap ≤ maxLen) : Calls Tryd.prog 41 #[.slice a n cap] w (OneM w) := by
  have hbA : Below w.heap.size w (w.alloc (Obj.cells #[.int .i64 0, .string ⟨#[]⟩, .int .i64 0, .int .i64 0, .slice none 0 0, .int .i64 0, .slice none 0 0, .int .i64 0, .slice none 0 0] 35)) := (Below.refl _ _).alloc (Nat.le_refl _) _
  have HE := hid (alloc_new w (Obj.cells #[.int .i64 0, .string ⟨#[]⟩, .int .i64 0, .int .i64 0, .slice none 0 0, .int .i64 0, .slice none 0 0, .int .i64 0, .slice none 0 0] 35))
  have HD := hid (drawTermValid_any a n cap (w.alloc (Obj.cells #[.int .i64 0, .string ⟨#[]⟩, .int .i64 0, .int .i64 0, .slice none 0 0, .int .i64 0, .slice none 0 0, .int .i64 0, .slice none 0 0] 35)) (hB.below hbA) hn hm)
  have HBA := hid hbA
  clear hB hbA
  go_enter Tryd.func41, Tryd.ntmps41
  go_wp2_with fail
  refine HD.out.mono ?_
  rintro e w3 ⟨t, v, f, rfl, hts, hat, hf, hb⟩
  obtain ⟨j0, j1, j2, j3, j4, j5, j6, j7, j8, j9, j10, j11, j12, j13, j14, rfl⟩ := hat.agg
  have hE3 := (hb.block _ (lt_of_block HE.out)).trans HE.out
  have hs3 := lt_of_block hE3
  obtain ⟨r0, r1, r2, r3, r4, r5, r6, r7, r8⟩ := cells9 hE3
  have rz := fun o => frozen_of_block (o := o) hE3
  have hge : ∀ b ∈ f, w.heap.size < b := fun b hm => by have h1 := (hf b hm).1; have h2 : (w.alloc (Obj.cells #[.int .i64 0, .string ⟨#[]⟩, .int .i64 0, .int .i64 0, .slice none 0 0, .int .i64 0, .slice none 0 0, .int .i64 0, .slice none 0 0] 35)).heap.size = w.heap.size + 1 := (by simp); omega
  have FIN := hid (show OneM w (.returned (.agg #[.int .i64 j0, .string j1, .int .i64 j2, .int .i64 j3, .slice j5 j4 j6, .int .i64 j7, .slice j9 j8 j10, .int .i64 j11, .slice j13 j12 j14])) (put w3 w.heap.size 0 [.int .i64 j0, .string j1, .int .i64 j2, .int .i64 j3, .slice j5 j4 j6, .int .i64 j7, .slice j9 j8 j10, .int .i64 j11, .slice j13 j12 j14]) from
    ⟨t, _, f, rfl, hts, hat.congr fun b hm o => World.cell?_of_block (w := w3) (a := ⟨b, o, none⟩) (heap_put_ne (show b ≠ w.heap.size from by have := hge b hm; omega)), fun b hm => ⟨by have := hge b hm; omega, fun o => (World.frozen?_of_block (w := w3) (a := ⟨b, o, none⟩) (heap_put_ne (show b ≠ w.heap.size from by have := hge b hm; omega))).trans ((hf b hm).2 o)⟩, below_put (below_trans HBA.out hb) (Nat.le_refl _)⟩)
  simp only [put, Nat.zero_add, Nat.reduceAdd] at FIN
  clear hat hf hb hE3 hge hts HE HD HBA
  go_wp2_with fail
  exact bodyPost_ret (v := .agg #[.int .i64 j0, .string j1, .int .i64 j2, .int .i64 j3, .slice j5 j4 j6, .int .i64 j7, .slice j9 j8 j10, .int .i64 j11, .slice j13 j12 j14]) (by simp [results, Tryd.results41, go_sem, r0, r1, r2, r3, r4, r5, r6, r7, r8]) rfl FIN.out
end Go.Proofs.YtffmpjcjmffdeaaDoor

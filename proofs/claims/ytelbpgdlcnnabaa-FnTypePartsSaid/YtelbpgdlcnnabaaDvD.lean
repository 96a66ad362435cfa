/- Draws: DrawTypeDepth. -/
import Derived.Test.YtelbpgdlcnnabaaDrV
namespace Go.Proofs.Ytelbpgdlcnnabaa
open Go.RowKit

set_option maxRecDepth 100000 in
set_option maxHeartbeats 1000000 in
theorem drawDepth_any (a : Option Addr) (n cap : Nat) (w : World) (hB : BytA w a n) (hn : n ≤ cap) (hm : cap ≤ maxLen) : Calls Try.prog 32 #[.slice a n cap] w (OneX w) := by
  have hbA : Below w.heap.size w (w.alloc (Obj.cells #[.int .i64 0, .slice none 0 0] 25)) := (Below.refl _ _).alloc (Nat.le_refl _) _
  have hE0 := alloc_new w (Obj.cells #[.int .i64 0, .slice none 0 0] 25)
  have HD := hid (drawValid_any a n cap (w.alloc (Obj.cells #[.int .i64 0, .slice none 0 0] 25)) (hB.below hbA) hn hm)
  have HBA := hid hbA
  have HE := hid hE0
  clear hB hbA hE0
  go_enter Try.func32, Try.ntmps32
  go_wp2_with fail
  refine HD.out.mono ?_
  rintro e w1 ⟨t, v1, f1, rfl, hsm, h1, g1, hb⟩
  obtain ⟨k1, n1, a1, c1, rfl⟩ := h1.agg
  have hEa := (hb.block _ (by simp)).trans HE.out
  have z0 := (cell_of_block (o := 0) hEa)
  have z1 := (cell_of_block (o := 1) hEa)
  have zf := fun o => frozen_of_block (o := o) hEa
  have hs1 : w.heap.size < w1.heap.size := lt_of_block hEa
  have HF := hid (one_close (w := w) (R1 := w.heap.size) hsm h1 (fun b hb => by have := (g1 b hb).1; simp at this; refine ⟨?_, ?_⟩ <;> omega) (fun b hb o => (g1 b hb).2 o) (below_trans HBA.out hb) (Nat.le_refl _))
  clear h1 g1 hb hEa hsm
  go_wp2_with fail
  exact bodyPost_ret (v := .agg #[.int .i64 k1, .slice a1 n1 c1]) (by simp [results, Try.results32, go_sem, z0, z1]) rfl HF.out
end Go.Proofs.Ytelbpgdlcnnabaa

/- Draws: DrawMeetTypes. -/
import Derived.Test.YtelbpgdlcnnabaaDr8
namespace Go.Proofs.Ytelbpgdlcnnabaa
open Go.RowKit

theorem drawMeet_any (a : Option Addr) (n cap : Nat) (w : World) (hB : BytA w a n) (hn : n ≤ cap) (hm : cap ≤ maxLen) : Calls Try.prog 14 #[.slice a n cap] w (TwoX w SmallX) := by
  have hbA : Below w.heap.size w ((w.alloc (Obj.cells #[.int .i64 0, .slice none 0 0] 25)).alloc (Obj.cells #[.int .i64 0, .slice none 0 0] 25)) := ((Below.refl _ _).alloc (Nat.le_refl _) _).alloc (by simp) _
  obtain ⟨hE0, hE1⟩ := two9 (Below.refl (((w.alloc (Obj.cells #[.int .i64 0, .slice none 0 0] 25)).alloc (Obj.cells #[.int .i64 0, .slice none 0 0] 25))).heap.size ((w.alloc (Obj.cells #[.int .i64 0, .slice none 0 0] 25)).alloc (Obj.cells #[.int .i64 0, .slice none 0 0] 25)))
  have hsz : (((w.alloc (Obj.cells #[.int .i64 0, .slice none 0 0] 25)).alloc (Obj.cells #[.int .i64 0, .slice none 0 0] 25))).heap.size = w.heap.size + 1 + 1 := by simp
  have HD := hid (drawCon_any a n cap ((w.alloc (Obj.cells #[.int .i64 0, .slice none 0 0] 25)).alloc (Obj.cells #[.int .i64 0, .slice none 0 0] 25)) (hB.below hbA) hn hm)
  have HBA := hid hbA
  have HE := hid (And.intro hE0 hE1)
  clear hB hbA hE0 hE1
  go_enter Try.func14, Try.ntmps14
  go_wp2_with fail
  refine HD.out.mono ?_
  rintro e w1 ⟨t, u, v1, v2, f1, f2, rfl, hsm, h1, h2, g1, g2, hb⟩
  have HSX := hid hsm
  clear hsm
  obtain ⟨k1, n1, a1, c1, rfl⟩ := h1.agg
  obtain ⟨k2, n2, a2, c2, rfl⟩ := h2.agg
  have hEa := (hb.block _ (by omega)).trans HE.out.1
  have hEb := (hb.block _ (by omega)).trans HE.out.2
  have z0 := (cell_of_block (o := 0) hEa)
  have z1 := (cell_of_block (o := 1) hEa)
  have zf := fun o => frozen_of_block (o := o) hEa
  have u0 := (cell_of_block (o := 0) hEb)
  have u1 := (cell_of_block (o := 1) hEb)
  have uf := fun o => frozen_of_block (o := o) hEb
  have HF := hid (two_close (w := w) (R1 := w.heap.size) (R2 := w.heap.size + 1) (P := SmallX) HSX.out h1 h2 (fun b hb => by have := (g1 b hb).1; refine ⟨?_, ?_, ?_⟩ <;> omega) (fun b hb => by have := (g2 b hb).1; refine ⟨?_, ?_, ?_⟩ <;> omega) (fun b hb o => (g1 b hb).2 o) (fun b hb o => (g2 b hb).2 o) (below_trans HBA.out hb) (Nat.le_refl _) (by omega))
  clear h1 h2 g1 g2 hb hEa hEb
  go_wp2_with fail
  exact bodyPost_ret (v := .tuple #[.agg #[.int .i64 k1, .slice a1 n1 c1], .agg #[.int .i64 k2, .slice a2 n2 c2]]) (by simp [results, Try.results14, go_sem, z0, z1, u0, u1]) rfl HF.out
end Go.Proofs.Ytelbpgdlcnnabaa

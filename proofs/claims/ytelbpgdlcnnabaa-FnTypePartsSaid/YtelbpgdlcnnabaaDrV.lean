/- Draws: DrawTypeValid. -/
import Derived.Test.YtelbpgdlcnnabaaDr8
namespace Go.Proofs.Ytelbpgdlcnnabaa
open Go.RowKit

/-- What a draw of one type says. -/
def OneX (w : World) (e : Ending) (w' : World) : Prop := ∃ t v f, e = .returned v ∧ t.cnt ≤ 100 ∧ Ty.At w' t v f ∧ (∀ b ∈ f, w.heap.size ≤ b ∧ ∀ o, w'.frozen? ⟨b, o, none⟩ = false) ∧ Below w.heap.size w w'

theorem one_close {w w2 : World} {R1 : Nat} {t : Ty} {x y : Value} {f1 : List Nat} (hP : t.cnt ≤ 100) (h1 : t.At w2 (.agg #[x, y]) f1) (m1 : ∀ b ∈ f1, w.heap.size ≤ b ∧ b ≠ R1) (z1 : ∀ b ∈ f1, ∀ o, w2.frozen? ⟨b, o, none⟩ = false) (hb : Below w.heap.size w w2) (hR1 : w.heap.size ≤ R1) :
    OneX w (.returned (.agg #[x, y])) ((w2.setCell ⟨R1, 0, none⟩ x).setCell ⟨R1, 1, none⟩ y) :=
  ⟨t, _, f1, rfl, hP, (h1.setCell (a := ⟨R1, 0, none⟩) (fun b hb => (m1 b hb).2) x).setCell (a := ⟨R1, 1, none⟩) (fun b hb => (m1 b hb).2) y, fun b hb => ⟨(m1 b hb).1, fun o => (frozen_setCell_ne _ ⟨R1, 1, none⟩ _ b o (m1 b hb).2).trans ((frozen_setCell_ne _ ⟨R1, 0, none⟩ _ b o (m1 b hb).2).trans (z1 b hb o))⟩, (hb.setCell (p := ⟨R1, 0, none⟩) hR1 x).setCell (p := ⟨R1, 1, none⟩) hR1 y⟩

set_option maxRecDepth 100000 in
set_option maxHeartbeats 4000000 in
theorem drawValid_any (a : Option Addr) (n cap : Nat) (w : World) (hB : BytA w a n) (hn : n ≤ cap) (hm : cap ≤ maxLen) : Calls Try.prog 73 #[.slice a n cap] w (OneX w) := by
  have hbA : Below w.heap.size w (w.alloc (Obj.cells #[.int .i64 0, .slice none 0 0] 25)) := (Below.refl _ _).alloc (Nat.le_refl _) _
  have hE0 := alloc_new w (Obj.cells #[.int .i64 0, .slice none 0 0] 25)
  have hsz : (w.alloc (Obj.cells #[.int .i64 0, .slice none 0 0] 25)).heap.size = w.heap.size + 1 := by simp
  have HO := hid (open_any a n cap (w.alloc (Obj.cells #[.int .i64 0, .slice none 0 0] 25)) (hB.below hbA) hn hm)
  rw [hsz] at HO
  have HBA := hid hbA
  have HE := hid hE0
  clear hB hbA hE0
  go_enter Try.func73, Try.ntmps73
  go_wp2_with fail
  refine HO.out.mono ?_
  rintro e w1 ⟨rfl, hR1, hb1⟩
  have hb1' : Below (w.alloc (Obj.cells #[.int .i64 0, .slice none 0 0] 25)).heap.size (w.alloc (Obj.cells #[.int .i64 0, .slice none 0 0] 25)) w1 := by rw [hsz]; exact hb1
  have HER1 := hid ((hb1'.block _ (by omega)).trans HE.out)
  have HBW := hid (HBA.out.trans (hb1'.mono (by omega)))
  have HT := hid (l1Type_any (w.heap.size + 1) 0 w1 hR1 (by omega))
  have hs1 := hR1.lt
  clear hb1 hb1' hR1 HE
  go_wp2_with fail
  refine HT.out.mono ?_
  rintro e w2 ⟨tt, vt, gt, rfl, hsh, hatt, hft, hR2, hW2⟩
  obtain ⟨kt, nt, at', ct, rfl⟩ := hatt.agg
  have hs2 := hW2.size
  have HCN := hid (cnt_shp4 hsh)
  have HNM := hid (show ∀ b ∈ gt, b ≠ (w.heap.size + 1) from fun b hb => by have := hft.ge b hb; omega)
  replace HER1 := hid (hW2.block HER1.out (by omega))
  replace HBW := hid (HBW.out.trans (hW2.below.mono (by omega)))
  have HM := hid (l1Mutate_any tt (w.heap.size + 1) 100 _ gt w2 (hR2.mono (q' := 100) (by omega)) (by omega) hatt HNM.out (by have := HCN.out; omega))
  clear hsh hatt hft hR2 hW2
  go_wp2_with fail
  refine HM.out.mono ?_
  rintro e w3 ⟨t3, v3, g3, rfl, hc3, hat3, hf3, hR3, hW3⟩
  obtain ⟨k3, n3, a3, c3, rfl⟩ := hat3.agg
  have hE3 := hW3.block HER1.out (by omega)
  have z0 := (cell_of_block (o := 0) hE3)
  have z1 := (cell_of_block (o := 1) hE3)
  have zf := fun o => frozen_of_block (o := o) hE3
  have hs3 : w.heap.size < w3.heap.size := lt_of_block hE3
  have HF := hid (one_close (w := w) (R1 := w.heap.size) (t := t3) (by have := HCN.out; omega) hat3 (fun b hb => by have h0 := hf3.ge b hb; refine ⟨?_, ?_⟩ <;> omega) (fun b hb o => (hf3.2 b hb).2.2 o) (HBW.out.trans (hW3.below.mono (by omega))) (Nat.le_refl _))
  clear hc3 hat3 hf3 hR3 hW3 hE3
  go_wp2_with fail
  exact bodyPost_ret (v := .agg #[.int .i64 k3, .slice a3 n3 c3]) (by simp [results, Try.results73, go_sem, z0, z1]) rfl HF.out
end Go.Proofs.Ytelbpgdlcnnabaa

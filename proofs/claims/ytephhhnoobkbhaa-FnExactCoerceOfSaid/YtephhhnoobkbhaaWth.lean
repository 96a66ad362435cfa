/- Memory apart: what marks leave alone (as XFin2, without the types' own functions). -/
import Derived.Test.YtephhhnoobkbhaaHeld
namespace Go.Proofs.Ytephhhnoobkbhaa
open Go.RowKit

theorem cell_only {w w' : World} {f : List Nat} {b o : Nat} {v : Value} (h : w.cell? ⟨b, o, none⟩ = some v) (hon : Only f w w') (hb : b ∉ f) : w'.cell? ⟨b, o, none⟩ = some v :=
  (World.cell?_of_block (w := w) (a := ⟨b, o, none⟩) (hon.block b (World.block_lt_of_cell? _ _ h) hb)).trans h

theorem Ty.At.only {w w' : World} {f g : List Nat} {t : Ty} {v : Value} (h : t.At w v g) (hon : Only f w w') (hd : ∀ b ∈ g, b ∉ f) : t.At w' v g :=
  h.congr fun b hb o => World.cell?_of_block (w := w) (a := ⟨b, o, none⟩) (hon.block b (h.lt b hb) (hd b hb))

/-- A footprint within two bounds. -/
def Within (lo hi : Nat) (f : List Nat) : Prop := ∀ b ∈ f, lo ≤ b ∧ b < hi

theorem Fresh.within {B : Nat} {w : World} {f : List Nat} (h : Fresh B w f) : Within B w.heap.size f := fun b hb => ⟨(h.2 b hb).1, (h.2 b hb).2.1⟩

theorem Ty.At.within {w : World} {t : Ty} {v : Value} {f : List Nat} (h : t.At w v f) : Within 0 w.heap.size f := fun b hb => ⟨Nat.zero_le _, h.lt b hb⟩

theorem Within.low {lo hi b : Nat} {f : List Nat} (h : Within lo hi f) (hb : b < lo) : b ∉ f := fun hm => by have := (h b hm).1; omega
theorem Within.high {lo hi b : Nat} {f : List Nat} (h : Within lo hi f) (hb : hi ≤ b) : b ∉ f := fun hm => by have := (h b hm).2; omega
theorem Within.apart {lo hi lo' hi' : Nat} {f g : List Nat} (h : Within lo hi f) (h' : Within lo' hi' g) (hb : hi ≤ lo' ∨ hi' ≤ lo) : ∀ b ∈ g, b ∉ f := fun b hm hm' => by
  have := h b hm'
  have := h' b hm
  omega

theorem Fresh.only {B : Nat} {w w' : World} {f g : List Nat} (h : Fresh B w g) (hon : Only f w w') : Fresh B w' g :=
  ⟨h.1, fun b hb => ⟨(h.2 b hb).1, Nat.lt_of_lt_of_le (h.2 b hb).2.1 hon.size, fun o => (hon.frozen b o (h.2 b hb).2.1).trans ((h.2 b hb).2.2 o)⟩⟩

theorem belowOnly {B : Nat} {a w w' : World} {f : List Nat} (h : Below B a w) (hon : Only f w w') (hB : B ≤ w.heap.size) (hf : ∀ b ∈ f, B ≤ b) : Below B a w' := h.trans (hon.below hf hB)

end Go.Proofs.Ytephhhnoobkbhaa

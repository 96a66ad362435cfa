/- A slice of numbers of the call's own. -/
import Derived.Test.YtgiimijooabioaaLc0
import Derived.Test.YtgiimijooabioaaPkA
namespace Go.Proofs.Ytgiimijooabioaa
open Go.RowKit

theorem Try.infoInt : (Try.prog.info? 3).map (fun i => (i.zero, i.size, i.bytes)) = some (some (.int .i64 0), 1, 8) := by kernel_rfl
theorem Try.underInts : Try.prog.underlying 36 = some (.slice 3) := by kernel_rfl

/-- The slice v of the call's own, from block B on, reads as the numbers ds. -/
def GrowI (B : Nat) (ds : List Int) (v : Value) (w : World) : Prop := w.ownsRow B 3 1 v ds.length (ds.map (Value.int .i64))

theorem GrowI.zero (B : Nat) (w : World) : GrowI B [] (.slice none 0 0) w := World.ownsRow_nil w _ _ _

theorem GrowI.new {B : Nat} {w : World} (h : B ≤ w.heap.size) : GrowI B [] (.slice (some ⟨w.heap.size, 0, none⟩) 0 0) (w.alloc (Obj.cells #[] 3)) :=
  ⟨rfl, .inr ⟨w.heap.size, 0, #[], rfl, h, alloc_new _ _, Nat.le_refl _, Nat.zero_le _, rfl, rfl⟩⟩

theorem GrowI.below {B : Nat} {ds : List Int} {v : Value} {w w' : World} (h : GrowI B ds v w) (hb : Below w.heap.size w w') : GrowI B ds v w' := by
  refine World.ownsRow.kept h (grown_of_below hb none) ?_
  cases v.ownBlock with
  | none => exact .inl rfl
  | some b => exact .inr (by simp)

theorem GrowI.mono {B B' : Nat} {ds : List Int} {v : Value} {w : World} (h : GrowI B ds v w) (hB : B' ≤ B) : GrowI B' ds v w := by
  obtain ⟨h1, h2⟩ := h
  refine ⟨h1, ?_⟩
  rcases h2 with h2 | ⟨g, cap, cur, h3, h4, h5⟩
  · exact .inl h2
  · exact .inr ⟨g, cap, cur, h3, Nat.le_trans hB h4, h5⟩

theorem GrowI.shape {B : Nat} {ds : List Int} {v : Value} {w : World} (h : GrowI B ds v w) : ∃ a cap, v = .slice a ds.length cap := by
  rcases h.2 with ⟨rfl, h0⟩ | ⟨g, cap, cur, rfl, _⟩
  · exact ⟨none, 0, by rw [h0]⟩
  · exact ⟨_, _, rfl⟩

theorem GrowI.own_ge {B : Nat} {ds : List Int} {v : Value} {w : World} (h : GrowI B ds v w) : ∀ b, v.ownBlock = some b → B ≤ b ∧ b < w.heap.size := fun b hb => h.lt b hb

/-- The elements' cells. -/
theorem GrowI.cells {B : Nat} {ds : List Int} {a : Option Addr} {n cap : Nat} {w : World} (h : GrowI B ds (.slice a n cap) w) (j : Nat) (hj : j < ds.length) :
    ∃ g, a = some ⟨g, 0, none⟩ ∧ g < w.heap.size ∧ B ≤ g ∧ w.cell? ⟨g, j, none⟩ = some (.int .i64 ds[j]) ∧ w.frozen? ⟨g, j, none⟩ = false := by
  rcases h.2 with ⟨h0, h1⟩ | ⟨g, cap', cur, e, hb, hg, hc, hm, hsz, hx⟩
  · omega
  · cases e
    refine ⟨g, rfl, lt_of_block hg, hb, ?_, frozen_of_block hg⟩
    rw [cell_of_block hg]
    have h2 : (cur.toList.take (ds.length * 1))[j]? = (ds.map (Value.int .i64))[j]? := by rw [hx]
    rw [List.getElem?_take_of_lt (by omega), Array.getElem?_toList] at h2
    rw [h2]
    simp [hj]

theorem GrowI.snoc {B : Nat} {ds : List Int} {x : Int} {g n cap : Nat} {w : World} (h : w.ownsRow B 3 1 (.slice (some ⟨g, 0, none⟩) n cap) n (ds.map (Value.int .i64) ++ [.int .i64 x])) (hn : n = ds.length + 1) : GrowI B (ds ++ [x]) (.slice (some ⟨g, 0, none⟩) n cap) w := by
  subst hn
  unfold GrowI
  simpa using h

theorem own_new {B g H cp n : Nat} {v : Value} (hat : v.ownBlock = some g ∨ g = H) (ho : ∀ b, v.ownBlock = some b → B ≤ b) (hB : B ≤ H) : ∀ b, (Value.slice (some ⟨g, 0, none⟩) n cp).ownBlock = some b → B ≤ b := fun b hb => by
  obtain rfl : g = b := by simpa [Value.ownBlock] using hb
  rcases hat with h | h
  · exact ho g h
  · omega

/-- Behind an append to a row from block B on, what lies below is as it was. -/
theorem grown_low {B : Nat} {w w1 w3 : World} {v : Value} {o : Obj} (hb : Below B w w1) (hB : B ≤ w1.heap.size) (ho : ∀ b, v.ownBlock = some b → B ≤ b) (hg : (w1.alloc o).grownBy w3 v.ownBlock) : Below B w w3 := by
  have h1 : Below B w1 (w1.alloc o) := (Below.refl _ _).alloc hB _
  refine (hb.trans h1).trans ⟨hg.os, hg.tape, hg.output, hg.size, fun k hk => hg.block k (by simp; omega) (fun e => by have := ho k e.symm; omega)⟩
/-- A new slice of numbers handed back. -/
def MadeI (w : World) (ds : List Int) (e : Ending) (w' : World) : Prop := ∃ v, e = .returned v ∧ GrowI w.heap.size ds v w' ∧ Below w.heap.size w w'

theorem m_cell {w w' : World} {v u : Value} {M B s0 : Nat} (hg : w.grownBy w' v.ownBlock) (ho : ∀ b, v.ownBlock = some b → B ≤ b ∧ b < s0) (hMB : M < B) (hc : w.cell? ⟨M, 0, none⟩ = some u) : w'.cell? ⟨M, 0, none⟩ = some u :=
  (hg.cell_far ⟨M, 0, none⟩ (World.block_lt_of_cell? _ _ hc) (fun e => by have : M = M := rfl; have := (ho M e.symm).1; omega)).trans hc

theorem m_frozen {w w' : World} {v : Value} {M B s0 : Nat} {C : Array Value} {T : TypeId} (hg : w.grownBy w' v.ownBlock) (ho : ∀ b, v.ownBlock = some b → B ≤ b ∧ b < s0) (hMB : M < B) (hc : w.heap[M]? = some (.cells C T (0, 0))) : w'.frozen? ⟨M, 0, none⟩ = false :=
  (hg.frozen_far ⟨M, 0, none⟩ (lt_of_block hc) (fun e => by have := (ho M e.symm).1; omega)).trans (frozen_of_block hc)

end Go.Proofs.Ytgiimijooabioaa

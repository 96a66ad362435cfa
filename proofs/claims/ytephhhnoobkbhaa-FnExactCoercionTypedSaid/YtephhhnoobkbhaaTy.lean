/- Types as trees: how a Type lies in memory, and what keeps it there. -/
import Derived.Test.YtephhhnoobkbhaaRows
import Derived.WalkKit
import Derived.BigQuiet
import Derived.Deep.QuietTactic
import Derived.Deep.RegionWith
import Derived.Deep.DeepCutAuto
import Derived.Deep.DeepFit
namespace Go.Proofs.Ytephhhnoobkbhaa
open Go.RowKit

theorem hid {p : Prop} (h : p) : Hid p := h

inductive Ty where
  | mk (k : Int) (ts : List Ty)

theorem Ty.ind {P : Ty → Prop} (h : ∀ k ts, (∀ t ∈ ts, P t) → P (.mk k ts)) : ∀ t, P t
  | .mk k ts => h k ts (fun t _ => Ty.ind h t)

mutual
/-- In the world w the value v reads as the tree; fp: the blocks of its slices. -/
def Ty.At (w : World) : Ty → Value → List Nat → Prop
  | .mk k ts, v, fp => ∃ s, v = .agg #[.int .i64 k, s] ∧
     ((ts = [] ∧ fp = [] ∧ ∃ a cap, s = .slice a 0 cap) ∨
      ∃ b o cap f, s = .slice (some ⟨b, o, none⟩) ts.length cap ∧ 0 < ts.length ∧ ts.length ≤ cap ∧ ts.length ≤ maxLen ∧ Ty.AtL w ts b o f ∧ fp = b :: f)
def Ty.AtL (w : World) : List Ty → Nat → Nat → List Nat → Prop
  | [], _, _, fp => fp = []
  | t :: ts, b, o, fp => ∃ v0 v1 f1 f2, w.cell? ⟨b, o, none⟩ = some v0 ∧ w.cell? ⟨b, o + 1, none⟩ = some v1 ∧ Ty.At w t (.agg #[v0, v1]) f1 ∧ Ty.AtL w ts b (o + 2) f2 ∧ fp = f1 ++ f2
end

/-- A slice value that reads as a list of trees. -/
def SlAt (w : World) (ts : List Ty) (s : Value) (fp : List Nat) : Prop :=
  (ts = [] ∧ fp = [] ∧ ∃ a cap, s = .slice a 0 cap) ∨
  ∃ b o cap f, s = .slice (some ⟨b, o, none⟩) ts.length cap ∧ 0 < ts.length ∧ ts.length ≤ cap ∧ ts.length ≤ maxLen ∧ Ty.AtL w ts b o f ∧ fp = b :: f

theorem Ty.at_mk {w : World} {k : Int} {ts : List Ty} {v : Value} {fp : List Nat} : Ty.At w (.mk k ts) v fp ↔ ∃ s, v = .agg #[.int .i64 k, s] ∧ SlAt w ts s fp := by
  simp only [Ty.At, SlAt]

theorem Ty.atL_get {w : World} : ∀ {ts : List Ty} {b o : Nat} {fp : List Nat}, Ty.AtL w ts b o fp → ∀ i, (h : i < ts.length) →
    ∃ v0 v1 f, w.cell? ⟨b, o + i * 2, none⟩ = some v0 ∧ w.cell? ⟨b, o + i * 2 + 1, none⟩ = some v1 ∧ Ty.At w ts[i] (.agg #[v0, v1]) f ∧ (∀ x ∈ f, x ∈ fp)
  | [], _, _, _, _, i, h => by simp at h
  | t :: ts, b, o, fp, hat, i, h => by
    obtain ⟨v0, v1, f1, f2, c0, c1, ha, hl, rfl⟩ := hat
    cases i with
    | zero => exact ⟨v0, v1, f1, by simpa using c0, by simpa using c1, ha, fun x hx => List.mem_append_left _ hx⟩
    | succ i =>
      obtain ⟨u0, u1, f, d0, d1, hb, hf⟩ := Ty.atL_get hl i (by simpa using h)
      refine ⟨u0, u1, f, ?_, ?_, by simpa using hb, fun x hx => List.mem_append_right _ (hf x hx)⟩
      · rw [show o + (i + 1) * 2 = o + 2 + i * 2 by omega]; exact d0
      · rw [show o + (i + 1) * 2 + 1 = o + 2 + i * 2 + 1 by omega]; exact d1

mutual
/-- What reads so in one world reads so in each that has the same cells in its blocks. -/
theorem Ty.At.congr {w w' : World} : ∀ {t : Ty} {v : Value} {fp : List Nat}, Ty.At w t v fp → (∀ b ∈ fp, ∀ o, w'.cell? ⟨b, o, none⟩ = w.cell? ⟨b, o, none⟩) → Ty.At w' t v fp
  | .mk k ts, v, fp, h, hk => by
    obtain ⟨s, hv, h⟩ := h
    refine ⟨s, hv, ?_⟩
    rcases h with h | ⟨b, o, cap, f, hs, hp, hc, hm, hl, rfl⟩
    · exact .inl h
    · exact .inr ⟨b, o, cap, f, hs, hp, hc, hm, Ty.AtL.congr hl (hk b (by simp)) (fun b' hb' => hk b' (by simp [hb'])), rfl⟩
theorem Ty.AtL.congr {w w' : World} : ∀ {ts : List Ty} {b o : Nat} {fp : List Nat}, Ty.AtL w ts b o fp → (∀ o, w'.cell? ⟨b, o, none⟩ = w.cell? ⟨b, o, none⟩) → (∀ b ∈ fp, ∀ o, w'.cell? ⟨b, o, none⟩ = w.cell? ⟨b, o, none⟩) → Ty.AtL w' ts b o fp
  | [], _, _, _, h, _, _ => h
  | t :: ts, b, o, fp, h, hb, hk => by
    obtain ⟨v0, v1, f1, f2, c0, c1, ha, hl, rfl⟩ := h
    exact ⟨v0, v1, f1, f2, (hb _).trans c0, (hb _).trans c1, Ty.At.congr ha (fun x hx => hk x (List.mem_append_left _ hx)), Ty.AtL.congr hl hb (fun x hx => hk x (List.mem_append_right _ hx)), rfl⟩
end

mutual
/-- The blocks lie in the world. -/
theorem Ty.At.lt {w : World} : ∀ {t : Ty} {v : Value} {fp : List Nat}, Ty.At w t v fp → ∀ b ∈ fp, b < w.heap.size
  | .mk k ts, v, fp, h => by
    obtain ⟨s, hv, h⟩ := h
    rcases h with ⟨_, rfl, _⟩ | ⟨b, o, cap, f, hs, hp, hc, hm, hl, rfl⟩
    · simp
    · intro x hx
      rcases List.mem_cons.1 hx with rfl | hx
      · cases ts with
        | nil => simp at hp
        | cons t ts =>
          obtain ⟨v0, v1, f1, f2, c0, _⟩ := hl
          exact World.block_lt_of_cell? _ _ c0
      · exact Ty.AtL.lt hl x hx
theorem Ty.AtL.lt {w : World} : ∀ {ts : List Ty} {b o : Nat} {fp : List Nat}, Ty.AtL w ts b o fp → ∀ b ∈ fp, b < w.heap.size
  | [], _, _, _, h => by cases h; simp
  | t :: ts, b, o, fp, h => by
    obtain ⟨v0, v1, f1, f2, c0, c1, ha, hl, rfl⟩ := h
    intro x hx
    rcases List.mem_append.1 hx with hx | hx
    · exact Ty.At.lt ha x hx
    · exact Ty.AtL.lt hl x hx
end

theorem Ty.At.below {w w' : World} {t : Ty} {v : Value} {fp : List Nat} (h : Ty.At w t v fp) (hb : Below w.heap.size w w') : Ty.At w' t v fp :=
  h.congr fun b hm o => hb.cell (p := ⟨b, o, none⟩) (h.lt b hm)

theorem SlAt.congr {w w' : World} {ts : List Ty} {s : Value} {fp : List Nat} (h : SlAt w ts s fp) (hk : ∀ b ∈ fp, ∀ o, w'.cell? ⟨b, o, none⟩ = w.cell? ⟨b, o, none⟩) : SlAt w' ts s fp := by
  rcases h with h | ⟨b, o, cap, f, hs, hp, hc, hm, hl, rfl⟩
  · exact .inl h
  · exact .inr ⟨b, o, cap, f, hs, hp, hc, hm, hl.congr (hk b (by simp)) (fun b' hb' => hk b' (by simp [hb'])), rfl⟩

theorem SlAt.lt {w : World} {ts : List Ty} {s : Value} {fp : List Nat} (h : SlAt w ts s fp) : ∀ b ∈ fp, b < w.heap.size :=
  (Ty.at_mk (k := 0)|>.2 ⟨s, rfl, h⟩ : Ty.At w (.mk 0 ts) _ fp).lt

theorem SlAt.below {w w' : World} {ts : List Ty} {s : Value} {fp : List Nat} (h : SlAt w ts s fp) (hb : Below w.heap.size w w') : SlAt w' ts s fp :=
  h.congr fun b hm o => hb.cell (p := ⟨b, o, none⟩) (h.lt b hm)

/-- What a loop over a slice of trees takes: the slice's value, and each element's cells. -/
theorem SlAt.open {w : World} {ts : List Ty} {s : Value} {fp : List Nat} (h : SlAt w ts s fp) :
    ∃ a cap, s = .slice a ts.length cap ∧ ts.length ≤ cap ∧ ts.length ≤ 9223372036854775807 ∧ ∀ i, (h : i < ts.length) → ∃ b o v0 v1 f, a = some ⟨b, o, none⟩ ∧ b < w.heap.size ∧ w.cell? ⟨b, o + i * 2, none⟩ = some v0 ∧ w.cell? ⟨b, o + i * 2 + 1, none⟩ = some v1 ∧
      Ty.At w ts[i] (.agg #[v0, v1]) f ∧ (∀ x ∈ f, x ∈ fp) := by
  rcases h with ⟨rfl, rfl, a, cap, rfl⟩ | ⟨b, o, cap, f, rfl, hp, hc, hm, hl, rfl⟩
  · exact ⟨a, cap, rfl, Nat.zero_le _, by simp, fun i h => by simp at h⟩
  · refine ⟨some ⟨b, o, none⟩, cap, rfl, hc, hm, fun i h => ?_⟩
    obtain ⟨v0, v1, f1, c0, c1, hat, hf⟩ := Ty.atL_get hl i h
    exact ⟨b, o, v0, v1, f1, rfl, World.block_lt_of_cell? _ _ c0, c0, c1, hat, fun x hx => by simp [hf x hx]⟩

theorem ret_i {a b : Int} (h : a = b) : Ending.returned (.int .i64 a) = .returned (.int .i64 b) := by rw [h]
theorem ret_b {a b : Bool} (h : a = b) : Ending.returned (.bool a) = .returned (.bool b) := by rw [h]

theorem belowN {B : Nat} {w w' : World} (h : Below B w w') (n : Nat) : Below B w (w'.drewN n) := ⟨h.os, h.tape, h.output, h.size, h.block⟩

theorem alloc1 {w w' : World} {o : Obj} (h : Below (w.alloc o).heap.size (w.alloc o) w') : Below w.heap.size w w' :=
  Below.trans ((Below.refl _ _).alloc (Nat.le_refl _) _) (h.mono (by simp))

/-- A reading carried over a call that only made memory, from the world in which the loop began. -/
theorem Ty.At.via {w w' : World} {t : Ty} {v : Value} {fp : List Nat} (h : Ty.At w t v fp) (hb : Below w.heap.size w w') : Ty.At w' t v fp := h.below hb

theorem below_trans {w w1 w2 : World} (h : Below w.heap.size w w1) (k : Below w1.heap.size w1 w2) : Below w.heap.size w w2 := h.trans (k.mono h.size)

mutual
theorem Ty.AtL.congrR {w w' : World} : ∀ {ts : List Ty} {b o : Nat} {fp : List Nat}, Ty.AtL w ts b o fp → (∀ o', o ≤ o' → o' < o + ts.length * 2 → w'.cell? ⟨b, o', none⟩ = w.cell? ⟨b, o', none⟩) → (∀ b ∈ fp, ∀ o, w'.cell? ⟨b, o, none⟩ = w.cell? ⟨b, o, none⟩) → Ty.AtL w' ts b o fp
  | [], _, _, _, h, _, _ => h
  | t :: ts, b, o, fp, h, hb, hk => by
    obtain ⟨v0, v1, f1, f2, c0, c1, ha, hl, rfl⟩ := h
    simp only [List.length_cons] at hb
    exact ⟨v0, v1, f1, f2, (hb _ (Nat.le_refl _) (by omega)).trans c0, (hb _ (by omega) (by omega)).trans c1, Ty.At.congr ha (fun x hx => hk x (List.mem_append_left _ hx)), Ty.AtL.congrR hl (fun o' h1 h2 => hb o' (by omega) (by omega)) (fun x hx => hk x (List.mem_append_right _ hx)), rfl⟩
end

theorem Ty.AtL.snoc {w : World} : ∀ {ts : List Ty} {t : Ty} {b o : Nat} {f1 f2 : List Nat} {v0 v1 : Value}, Ty.AtL w ts b o f1 → w.cell? ⟨b, o + ts.length * 2, none⟩ = some v0 → w.cell? ⟨b, o + ts.length * 2 + 1, none⟩ = some v1 → Ty.At w t (.agg #[v0, v1]) f2 → Ty.AtL w (ts ++ [t]) b o (f1 ++ f2)
  | [], t, b, o, f1, f2, v0, v1, h, c0, c1, ha => by
    cases h
    exact ⟨v0, v1, f2, [], by simpa using c0, by simpa using c1, ha, rfl, by simp⟩
  | u :: ts, t, b, o, f1, f2, v0, v1, h, c0, c1, ha => by
    obtain ⟨u0, u1, g1, g2, d0, d1, hu, hl, rfl⟩ := h
    simp only [List.length_cons] at c0 c1
    refine ⟨u0, u1, g1, g2 ++ f2, d0, d1, hu, Ty.AtL.snoc hl ?_ ?_ ha, by simp⟩
    · rw [show o + 2 + ts.length * 2 = o + (ts.length + 1) * 2 by omega]; exact c0
    · rw [show o + 2 + ts.length * 2 + 1 = o + (ts.length + 1) * 2 + 1 by omega]; exact c1

/-- Blocks that a call has made for its answer alone. -/
def Fresh (B : Nat) (w : World) (fp : List Nat) : Prop := fp.Nodup ∧ ∀ b ∈ fp, B ≤ b ∧ b < w.heap.size ∧ ∀ o, w.frozen? ⟨b, o, none⟩ = false

theorem Fresh.nil (B : Nat) (w : World) : Fresh B w [] := ⟨List.nodup_nil, by simp⟩

theorem Fresh.mono {B B' : Nat} {w : World} {fp : List Nat} (h : Fresh B w fp) (hB : B' ≤ B) : Fresh B' w fp := ⟨h.1, fun b hb => ⟨Nat.le_trans hB (h.2 b hb).1, (h.2 b hb).2⟩⟩

theorem Fresh.below {B : Nat} {w w' : World} {fp : List Nat} (h : Fresh B w fp) (hb : Below w.heap.size w w') : Fresh B w' fp :=
  ⟨h.1, fun b hm => ⟨(h.2 b hm).1, Nat.lt_of_lt_of_le (h.2 b hm).2.1 hb.size, fun o => (hb.frozen (p := ⟨b, o, none⟩) (h.2 b hm).2.1).trans ((h.2 b hm).2.2 o)⟩⟩

theorem Fresh.append {B B' : Nat} {w w' : World} {f1 f2 : List Nat} (h1 : Fresh B w f1) (h2 : Fresh B' w' f2) (hB : w.heap.size ≤ B') (hBB : B ≤ B') (hb : Below w.heap.size w w') : Fresh B w' (f1 ++ f2) := by
  have h1' := h1.below hb
  refine ⟨List.nodup_append.2 ⟨h1.1, h2.1, fun a ha b hb' e => ?_⟩, fun b hm => ?_⟩
  · have := (h1.2 a ha).2.1
    have := (h2.2 b hb').1
    omega
  · rcases List.mem_append.1 hm with hm | hm
    · exact h1'.2 b hm
    · exact ⟨Nat.le_trans hBB (h2.2 b hm).1, (h2.2 b hm).2⟩

/-- What a call says that hands back a tree in memory of its own. -/
def MadeT (w : World) (t : Ty) (e : Ending) (w' : World) : Prop := ∃ v fp, e = .returned v ∧ t.At w' v fp ∧ Fresh w.heap.size w' fp ∧ Below w.heap.size w w'

def MadeS (w : World) (ts : List Ty) (e : Ending) (w' : World) : Prop := ∃ s fp, e = .returned s ∧ SlAt w' ts s fp ∧ Fresh w.heap.size w' fp ∧ Below w.heap.size w w'

/-- Behind a call that only made memory all old cells and marks read as before. -/
theorem bcell {W w1 : World} (hb : Below W.heap.size W w1) : (∀ b o, b < W.heap.size → w1.cell? ⟨b, o, none⟩ = W.cell? ⟨b, o, none⟩) ∧ (∀ b o, b < W.heap.size → w1.frozen? ⟨b, o, none⟩ = W.frozen? ⟨b, o, none⟩) :=
  ⟨fun b o h => hb.cell (p := ⟨b, o, none⟩) h, fun b o h => hb.frozen (p := ⟨b, o, none⟩) h⟩

theorem cell_setCell_ne (w : World) (a : Addr) (u : Value) (b o : Nat) (h : b ≠ a.block) : (w.setCell a u).cell? ⟨b, o, none⟩ = w.cell? ⟨b, o, none⟩ :=
  World.cell?_of_block (w := w) (a := ⟨b, o, none⟩) (Below.heap_setCell w a u b h)

theorem frozen_setCell_ne (w : World) (a : Addr) (u : Value) (b o : Nat) (h : b ≠ a.block) : (w.setCell a u).frozen? ⟨b, o, none⟩ = w.frozen? ⟨b, o, none⟩ :=
  World.frozen?_of_block (w := w) (a := ⟨b, o, none⟩) (Below.heap_setCell w a u b h)

theorem size_setCell (w : World) (a : Addr) (u : Value) : (w.setCell a u).heap.size = w.heap.size := by simp [World.setCell]

/-- A store beside a tree's blocks. -/
theorem SlAt.setCell {w : World} {ts : List Ty} {s : Value} {fp : List Nat} (h : SlAt w ts s fp) {a : Addr} (hn : ∀ b ∈ fp, b ≠ a.block) (u : Value) : SlAt (w.setCell a u) ts s fp :=
  h.congr fun b hb o => cell_setCell_ne w a u b o (hn b hb)

theorem Ty.At.setCell {w : World} {t : Ty} {s : Value} {fp : List Nat} (h : Ty.At w t s fp) {a : Addr} (hn : ∀ b ∈ fp, b ≠ a.block) (u : Value) : Ty.At (w.setCell a u) t s fp :=
  h.congr fun b hb o => cell_setCell_ne w a u b o (hn b hb)

theorem Fresh.setCell {B : Nat} {w : World} {fp : List Nat} (h : Fresh B w fp) {a : Addr} (hn : ∀ b ∈ fp, b ≠ a.block) (u : Value) : Fresh B (w.setCell a u) fp :=
  ⟨h.1, fun b hb => ⟨(h.2 b hb).1, by rw [size_setCell]; exact (h.2 b hb).2.1, fun o => (frozen_setCell_ne w a u b o (hn b hb)).trans ((h.2 b hb).2.2 o)⟩⟩

mutual
/-- How many nodes lie below the root. -/
def Ty.cnt : Ty → Nat
  | .mk _ ts => ts.length + cntL ts
def cntL : List Ty → Nat
  | [] => 0
  | t :: ts => t.cnt + cntL ts
end

theorem cnt_mem : ∀ {ts : List Ty} {t : Ty}, t ∈ ts → t.cnt ≤ cntL ts
  | u :: ts, t, h => by
    simp only [cntL]
    rcases List.mem_cons.1 h with rfl | h
    · omega
    · have := cnt_mem h
      omega

theorem SlAt.shape {w : World} {ts : List Ty} {s : Value} {fp : List Nat} (h : SlAt w ts s fp) : ∃ a cap, s = .slice a ts.length cap :=
  let ⟨a, cap, hs, _⟩ := h.open
  ⟨a, cap, hs⟩

/-- From block lo on the world w' is as w was: what has been written lies below. -/
structure Above (lo : Nat) (w w' : World) : Prop where
  size : w.heap.size ≤ w'.heap.size
  block : ∀ k, lo ≤ k → k < w.heap.size → w'.heap[k]? = w.heap[k]?

theorem Above.refl (lo : Nat) (w : World) : Above lo w w := ⟨Nat.le_refl _, fun _ _ _ => rfl⟩

theorem Above.setCell {lo : Nat} {a w : World} (h : Above lo a w) {p : Addr} (hp : p.block < lo) (u : Value) : Above lo a (w.setCell p u) :=
  ⟨by rw [size_setCell]; exact h.size, fun k h1 h2 => (Below.heap_setCell _ _ _ _ (by omega)).trans (h.block k h1 h2)⟩

theorem SlAt.above {lo : Nat} {w w' : World} {ts : List Ty} {s : Value} {fp : List Nat} (h : SlAt w ts s fp) (ha : Above lo w w') (hlo : ∀ b ∈ fp, lo ≤ b) : SlAt w' ts s fp :=
  h.congr fun b hb o => World.cell?_of_block (w := w) (a := ⟨b, o, none⟩) (ha.block b (hlo b hb) (h.lt b hb))

theorem Ty.At.above {lo : Nat} {w w' : World} {t : Ty} {s : Value} {fp : List Nat} (h : Ty.At w t s fp) (ha : Above lo w w') (hlo : ∀ b ∈ fp, lo ≤ b) : Ty.At w' t s fp :=
  h.congr fun b hb o => World.cell?_of_block (w := w) (a := ⟨b, o, none⟩) (ha.block b (hlo b hb) (h.lt b hb))

theorem Fresh.above {lo B : Nat} {w w' : World} {fp : List Nat} (h : Fresh B w fp) (ha : Above lo w w') (hB : lo ≤ B) : Fresh B w' fp :=
  ⟨h.1, fun b hb => ⟨(h.2 b hb).1, Nat.lt_of_lt_of_le (h.2 b hb).2.1 ha.size, fun o =>
    (World.frozen?_of_block (w := w) (a := ⟨b, o, none⟩) (ha.block b (Nat.le_trans hB (h.2 b hb).1) (h.2 b hb).2.1)).trans ((h.2 b hb).2.2 o)⟩⟩

theorem Fresh.ge {B : Nat} {w : World} {fp : List Nat} (h : Fresh B w fp) : ∀ b ∈ fp, B ≤ b := fun b hb => (h.2 b hb).1

theorem heap_setCell_at {w : World} {M o : Nat} {C : Array Value} {T : TypeId} {fz : Nat × Nat} (h : w.heap[M]? = some (.cells C T fz)) (u : Value) : (w.setCell ⟨M, o, none⟩ u).heap[M]? = some (.cells (C.setIfInBounds o u) T fz) := by
  simp only [World.setCell, Array.getElem?_modify, h]
  simp

theorem cell_of_block {w : World} {M o : Nat} {C : Array Value} {T : TypeId} {fz : Nat × Nat} (h : w.heap[M]? = some (.cells C T fz)) : w.cell? ⟨M, o, none⟩ = C[o]? := by simp [World.cell?, h]

theorem frozen_of_block {w : World} {M o : Nat} {C : Array Value} {T : TypeId} (h : w.heap[M]? = some (.cells C T (0, 0))) : w.frozen? ⟨M, o, none⟩ = false := by simp [World.frozen?, h]

theorem lt_of_block {w : World} {M : Nat} {x : Obj} (h : w.heap[M]? = some x) : M < w.heap.size := by
  by_cases hl : M < w.heap.size
  · exact hl
  · rw [Array.getElem?_eq_none (by omega)] at h; cases h

theorem alloc_new (w : World) (o : Obj) : (w.alloc o).heap[w.heap.size]? = some o := by
  show (w.heap.push o)[w.heap.size]? = some o
  simp

/-- A block of n elements of which the first have been laid, each with memory of its own. -/
def Built (M : Nat) (T : TypeId) (n : Nat) (ds : List Ty) (fp : List Nat) (wr : World) : Prop :=
  ∃ C, wr.heap[M]? = some (.cells C T (0, 0)) ∧ C.size = n * 2 ∧ ds.length ≤ n ∧ Ty.AtL wr ds M 0 fp ∧ Fresh (M + 1) wr fp

theorem Built.zero {M : Nat} {T : TypeId} {n : Nat} {w : World} {C : Array Value} (h : w.heap[M]? = some (.cells C T (0, 0))) (hC : C.size = n * 2) : Built M T n [] [] w :=
  ⟨C, h, hC, Nat.zero_le _, by simp only [Ty.AtL], Fresh.nil _ _⟩

theorem Built.below {M : Nat} {T : TypeId} {n : Nat} {ds : List Ty} {fp : List Nat} {w w1 : World} (h : Built M T n ds fp w) (hb : Below w.heap.size w w1) : Built M T n ds fp w1 := by
  obtain ⟨C, hM, hC, hn, hl, hf⟩ := h
  exact ⟨C, (hb.block _ (lt_of_block hM)).trans hM, hC, hn, hl.congr (fun o => hb.cell (p := ⟨M, o, none⟩) (lt_of_block hM)) (fun b hm o => hb.cell (p := ⟨b, o, none⟩) (hl.lt b hm)), hf.below hb⟩

theorem Built.set {M : Nat} {T : TypeId} {n k : Nat} {ds : List Ty} {t : Ty} {x0 x1 : Value} {f fp : List Nat} {w : World} {lo : Nat} (h : Built M T n ds fp w) (hk : ds.length = k) (hlt : k < n) (ht : t.At w (.agg #[x0, x1]) f) (hlo : Fresh lo w f)
    (hsep : ∀ b ∈ fp, b < lo) (hM : M < lo) : Built M T n (ds ++ [t]) (fp ++ f) ((w.setCell ⟨M, k * 2, none⟩ x0).setCell ⟨M, k * 2 + 1, none⟩ x1) := by
  subst hk
  obtain ⟨C, hB, hC, hn, hl, hf⟩ := h
  have h1 := heap_setCell_at (o := ds.length * 2) hB x0
  have h2 := heap_setCell_at (o := ds.length * 2 + 1) h1 x1
  have hab := ((Above.refl (M + 1) w).setCell (p := ⟨M, ds.length * 2, none⟩) (Nat.lt_succ_self _) x0).setCell (p := ⟨M, ds.length * 2 + 1, none⟩) (Nat.lt_succ_self _) x1
  have hcl : ∀ o', o' < ds.length * 2 → ((w.setCell ⟨M, ds.length * 2, none⟩ x0).setCell ⟨M, ds.length * 2 + 1, none⟩ x1).cell? ⟨M, o', none⟩ = w.cell? ⟨M, o', none⟩ := by
    intro o' ho
    rw [cell_of_block h2, cell_of_block hB, Array.getElem?_setIfInBounds_ne (by omega), Array.getElem?_setIfInBounds_ne (by omega)]
  have hl' : Ty.AtL ((w.setCell ⟨M, ds.length * 2, none⟩ x0).setCell ⟨M, ds.length * 2 + 1, none⟩ x1) ds M 0 fp :=
    hl.congrR (fun o' _ h' => hcl o' (by omega)) (fun b hb o => World.cell?_of_block (w := w) (a := ⟨b, o, none⟩) (hab.block b (hf.ge b hb) (hl.lt b hb)))
  refine ⟨_, h2, by simp [hC], by simp; omega, hl'.snoc (v0 := x0) (v1 := x1) ?_ ?_ (ht.above hab (fun b hb => by have := hlo.ge b hb; omega)), ?_⟩
  · rw [Nat.zero_add, cell_of_block h2, Array.getElem?_setIfInBounds_ne (by omega)]
    simp [Array.getElem?_setIfInBounds, hC]; omega
  · rw [Nat.zero_add, cell_of_block h2]
    simp [Array.getElem?_setIfInBounds, hC]; omega
  · have hf1 := hf.above hab (Nat.le_refl _)
    have hf2 := hlo.above hab (by omega)
    refine ⟨List.nodup_append.2 ⟨hf1.1, hf2.1, fun a ha b hb e => ?_⟩, fun b hb => ?_⟩
    · have := hsep a ha
      have := hf2.ge b hb
      omega
    · rcases List.mem_append.1 hb with hb | hb
      · exact hf1.2 b hb
      · exact ⟨by have := hf2.ge b hb; omega, (hf2.2 b hb).2⟩

/-- One more element: the call that makes it, then the two stores. -/
theorem Built.step {M : Nat} {T : TypeId} {n k : Nat} {ds : List Ty} {t : Ty} {x0 x1 : Value} {f fp : List Nat} {w w1 : World} (h : Built M T n ds fp w) (hk : ds.length = k) (hlt : k < n) (hb : Below w.heap.size w w1) (ht : t.At w1 (.agg #[x0, x1]) f) (hf : Fresh w.heap.size w1 f) :
    Built M T n (ds ++ [t]) (fp ++ f) ((w1.setCell ⟨M, k * 2, none⟩ x0).setCell ⟨M, k * 2 + 1, none⟩ x1) :=
  (h.below hb).set hk hlt ht hf (let ⟨_, _, _, _, hl, _⟩ := h; hl.lt) (let ⟨_, hB, _⟩ := h; lt_of_block hB)

theorem Built.done {M : Nat} {T : TypeId} {n : Nat} {ds : List Ty} {fp : List Nat} {w : World} (h : Built M T n ds fp w) (hn : ds.length = n) (hm : n ≤ maxLen) : ∃ fp, SlAt w ds (.slice (some ⟨M, 0, none⟩) n n) fp ∧ Fresh M w fp := by
  obtain ⟨C, hB, hC, _, hl, hf⟩ := h
  subst hn
  by_cases h0 : ds.length = 0
  · exact ⟨[], .inl ⟨List.length_eq_zero_iff.1 h0, rfl, _, _, by rw [h0]⟩, Fresh.nil _ _⟩
  · refine ⟨M :: fp, .inr ⟨M, 0, _, fp, rfl, by omega, Nat.le_refl _, hm, hl, rfl⟩, List.nodup_cons.2 ⟨fun hm => by have := hf.ge _ hm; omega, hf.1⟩, fun b hb => ?_⟩
    rcases List.mem_cons.1 hb with rfl | hb
    · exact ⟨Nat.le_refl _, lt_of_block hB, fun o => frozen_of_block hB⟩
    · exact ⟨by have := hf.ge b hb; omega, (hf.2 b hb).2⟩

/-- The block's own cells, as a walk asks for them. -/
theorem Built.cells {M : Nat} {T : TypeId} {n k : Nat} {ds : List Ty} {fp : List Nat} {w w1 : World} (h : Built M T n ds fp w) (hlt : k < n) (hb : Below w.heap.size w w1) :
    ∃ y0 y1, w1.cell? ⟨M, k * 2, none⟩ = some y0 ∧ w1.cell? ⟨M, k * 2 + 1, none⟩ = some y1 ∧ ∀ o, w1.frozen? ⟨M, o, none⟩ = false := by
  obtain ⟨C, hB, hC, _⟩ := h.below hb
  exact ⟨C[k * 2]'(by omega), C[k * 2 + 1]'(by omega), by rw [cell_of_block hB]; exact Array.getElem?_eq_getElem _, by rw [cell_of_block hB]; exact Array.getElem?_eq_getElem _, fun o => frozen_of_block hB⟩

theorem Ty.shape (t : Ty) : ∃ k ts, t = .mk k ts := by cases t; exact ⟨_, _, rfl⟩

theorem Ty.At.agg {w : World} {t : Ty} {v : Value} {fp : List Nat} (h : t.At w v fp) : ∃ k n a cap, v = .agg #[.int .i64 k, .slice a n cap] := by
  obtain ⟨k, ts, rfl⟩ := t.shape
  obtain ⟨s, rfl, hs⟩ := Ty.at_mk.1 h
  obtain ⟨a, cap, rfl⟩ := hs.shape
  exact ⟨_, _, _, _, rfl⟩

/-- The same, each element's cells written out. -/
theorem SlAt.openA {w : World} {ts : List Ty} {s : Value} {fp : List Nat} (h : SlAt w ts s fp) :
    ∃ a cap, s = .slice a ts.length cap ∧ ts.length ≤ cap ∧ ts.length ≤ 9223372036854775807 ∧ ∀ i, (h : i < ts.length) → ∃ b o k1 n1 a1 cap1 f, a = some ⟨b, o, none⟩ ∧ b < w.heap.size ∧ w.cell? ⟨b, o + i * 2, none⟩ = some (.int .i64 k1) ∧ w.cell? ⟨b, o + i * 2 + 1, none⟩ = some (.slice a1 n1 cap1) ∧
      Ty.At w ts[i] (.agg #[.int .i64 k1, .slice a1 n1 cap1]) f ∧ (∀ x ∈ f, x ∈ fp) := by
  obtain ⟨a, cap, hs, hc, hm, hg⟩ := h.open
  refine ⟨a, cap, hs, hc, hm, fun i hi => ?_⟩
  obtain ⟨b, o, v0, v1, f, ha, hb, c0, c1, hat, hf⟩ := hg i hi
  obtain ⟨k1, n1, a1, cap1, hv⟩ := hat.agg
  simp only [Value.agg.injEq, Array.mk.injEq, List.cons.injEq, and_true] at hv
  obtain ⟨rfl, rfl⟩ := hv
  exact ⟨b, o, k1, n1, a1, cap1, f, ha, hb, c0, c1, hat, hf⟩

theorem cell_keep {w w' : World} {a : Addr} {v : Value} (h : w.cell? a = some v) (hb : Below w.heap.size w w') : w'.cell? a = some v :=
  (hb.cell (World.block_lt_of_cell? _ _ h)).trans h

theorem below_drew (w : World) : Below w.heap.size w w.drew := (Below.refl _ _).drew

theorem cell_keepB {B : Nat} {w w' : World} {a : Addr} {v : Value} (h : w.cell? a = some v) (hb : Below B w w') (ha : a.block < B) : w'.cell? a = some v := (hb.cell ha).trans h

end Go.Proofs.Ytephhhnoobkbhaa

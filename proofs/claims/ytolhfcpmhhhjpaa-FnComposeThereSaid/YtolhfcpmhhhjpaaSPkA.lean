/- Types as trees: how a Type lies in memory, and what keeps it there. Labels: the specification's test and the program's; a field's test. Terms as trees: how a Term lies in memory, and what keeps it there. Blocks of terms under construction: nine stores an element. The document's chapter 1 as plain functions on trees. The specification's TypeValid. The document's chapter 2 as plain functions on terms: shape and nodes. strings.IndexByte. The program's test on a form's signs. The laws' own helper szType: the number of nodes that may still come. The laws' own helper toType: a copy in memory of its own. The laws' own helper eqType: equality of trees, at every level. Consistency and precision as plain functions; well formed types; boxes of two. The program's TypeValid. The laws' own helpers markType and heldType: marks written into the memory of a tree, and asked for again. markType, heldTypeS and heldType. Memory apart: what marks leave alone (as XFin2, without the types' own functions). A slice of trees that grows by append, one element a round. The specification's copies: l1Any, l1Copy. -/
import Derived.Test.YtolhfcpmhhhjpaaRows
import Derived.WalkKit
import Derived.BigQuiet
import Derived.Deep.QuietTactic
import Derived.Deep.RegionWith
import Derived.Deep.DeepCutAuto
import Derived.Deep.DeepFit
import Derived.Lib.Bytealg
import Derived.LoopTactic
import Derived.StillTailTactics
import Derived.Deep.AppendLies
import Derived.Deep.RegionLaw
namespace Go.Proofs.Ytolhfcpmhhhjpaa
open Go.RowKit

theorem hid {p : Prop} (h : p) : Hid p := h

inductive Ty where
  | mk (k : Int) (ts : List Ty)

theorem Ty.ind {P : Ty → Prop} (h : ∀ k ts, (∀ t ∈ ts, P t) → P (.mk k ts)) : ∀ t, P t
  | .mk k ts => h k ts (fun t _ => Ty.ind h t)

mutual
/-- In the world w the value v reads as the tree; fp: the blocks of its slices. -/
def Ty.At (w : World) : Ty → Value → List Nat → Prop
  | .mk k ts, v, fp => ∃ s, v = .agg #[.int .i64 k, s] ∧
     ((ts = [] ∧ fp = [] ∧ ∃ a cap, s = .slice a 0 cap) ∨
      ∃ b o cap f, s = .slice (some ⟨b, o, none⟩) ts.length cap ∧ 0 < ts.length ∧ ts.length ≤ cap ∧ ts.length ≤ maxLen ∧ Ty.AtL w ts b o f ∧ fp = b :: f)
def Ty.AtL (w : World) : List Ty → Nat → Nat → List Nat → Prop
  | [], _, _, fp => fp = []
  | t :: ts, b, o, fp => ∃ v0 v1 f1 f2, w.cell? ⟨b, o, none⟩ = some v0 ∧ w.cell? ⟨b, o + 1, none⟩ = some v1 ∧ Ty.At w t (.agg #[v0, v1]) f1 ∧ Ty.AtL w ts b (o + 2) f2 ∧ fp = f1 ++ f2
end

/-- A slice value that reads as a list of trees. -/
def SlAt (w : World) (ts : List Ty) (s : Value) (fp : List Nat) : Prop :=
  (ts = [] ∧ fp = [] ∧ ∃ a cap, s = .slice a 0 cap) ∨
  ∃ b o cap f, s = .slice (some ⟨b, o, none⟩) ts.length cap ∧ 0 < ts.length ∧ ts.length ≤ cap ∧ ts.length ≤ maxLen ∧ Ty.AtL w ts b o f ∧ fp = b :: f

theorem Ty.at_mk {w : World} {k : Int} {ts : List Ty} {v : Value} {fp : List Nat} : Ty.At w (.mk k ts) v fp ↔ ∃ s, v = .agg #[.int .i64 k, s] ∧ SlAt w ts s fp := by
  simp only [Ty.At, SlAt]

theorem Ty.atL_get {w : World} : ∀ {ts : List Ty} {b o : Nat} {fp : List Nat}, Ty.AtL w ts b o fp → ∀ i, (h : i < ts.length) →
    ∃ v0 v1 f, w.cell? ⟨b, o + i * 2, none⟩ = some v0 ∧ w.cell? ⟨b, o + i * 2 + 1, none⟩ = some v1 ∧ Ty.At w ts[i] (.agg #[v0, v1]) f ∧ (∀ x ∈ f, x ∈ fp)
  | [], _, _, _, _, i, h => by simp at h
  | t :: ts, b, o, fp, hat, i, h => by
    obtain ⟨v0, v1, f1, f2, c0, c1, ha, hl, rfl⟩ := hat
    cases i with
    | zero => exact ⟨v0, v1, f1, by simpa using c0, by simpa using c1, ha, fun x hx => List.mem_append_left _ hx⟩
    | succ i =>
      obtain ⟨u0, u1, f, d0, d1, hb, hf⟩ := Ty.atL_get hl i (by simpa using h)
      refine ⟨u0, u1, f, ?_, ?_, by simpa using hb, fun x hx => List.mem_append_right _ (hf x hx)⟩
      · rw [show o + (i + 1) * 2 = o + 2 + i * 2 by omega]; exact d0
      · rw [show o + (i + 1) * 2 + 1 = o + 2 + i * 2 + 1 by omega]; exact d1

mutual
/-- What reads so in one world reads so in each that has the same cells in its blocks. -/
theorem Ty.At.congr {w w' : World} : ∀ {t : Ty} {v : Value} {fp : List Nat}, Ty.At w t v fp → (∀ b ∈ fp, ∀ o, w'.cell? ⟨b, o, none⟩ = w.cell? ⟨b, o, none⟩) → Ty.At w' t v fp
  | .mk k ts, v, fp, h, hk => by
    obtain ⟨s, hv, h⟩ := h
    refine ⟨s, hv, ?_⟩
    rcases h with h | ⟨b, o, cap, f, hs, hp, hc, hm, hl, rfl⟩
    · exact .inl h
    · exact .inr ⟨b, o, cap, f, hs, hp, hc, hm, Ty.AtL.congr hl (hk b (by simp)) (fun b' hb' => hk b' (by simp [hb'])), rfl⟩
theorem Ty.AtL.congr {w w' : World} : ∀ {ts : List Ty} {b o : Nat} {fp : List Nat}, Ty.AtL w ts b o fp → (∀ o, w'.cell? ⟨b, o, none⟩ = w.cell? ⟨b, o, none⟩) → (∀ b ∈ fp, ∀ o, w'.cell? ⟨b, o, none⟩ = w.cell? ⟨b, o, none⟩) → Ty.AtL w' ts b o fp
  | [], _, _, _, h, _, _ => h
  | t :: ts, b, o, fp, h, hb, hk => by
    obtain ⟨v0, v1, f1, f2, c0, c1, ha, hl, rfl⟩ := h
    exact ⟨v0, v1, f1, f2, (hb _).trans c0, (hb _).trans c1, Ty.At.congr ha (fun x hx => hk x (List.mem_append_left _ hx)), Ty.AtL.congr hl hb (fun x hx => hk x (List.mem_append_right _ hx)), rfl⟩
end

mutual
/-- The blocks lie in the world. -/
theorem Ty.At.lt {w : World} : ∀ {t : Ty} {v : Value} {fp : List Nat}, Ty.At w t v fp → ∀ b ∈ fp, b < w.heap.size
  | .mk k ts, v, fp, h => by
    obtain ⟨s, hv, h⟩ := h
    rcases h with ⟨_, rfl, _⟩ | ⟨b, o, cap, f, hs, hp, hc, hm, hl, rfl⟩
    · simp
    · intro x hx
      rcases List.mem_cons.1 hx with rfl | hx
      · cases ts with
        | nil => simp at hp
        | cons t ts =>
          obtain ⟨v0, v1, f1, f2, c0, _⟩ := hl
          exact World.block_lt_of_cell? _ _ c0
      · exact Ty.AtL.lt hl x hx
theorem Ty.AtL.lt {w : World} : ∀ {ts : List Ty} {b o : Nat} {fp : List Nat}, Ty.AtL w ts b o fp → ∀ b ∈ fp, b < w.heap.size
  | [], _, _, _, h => by cases h; simp
  | t :: ts, b, o, fp, h => by
    obtain ⟨v0, v1, f1, f2, c0, c1, ha, hl, rfl⟩ := h
    intro x hx
    rcases List.mem_append.1 hx with hx | hx
    · exact Ty.At.lt ha x hx
    · exact Ty.AtL.lt hl x hx
end

theorem Ty.At.below {w w' : World} {t : Ty} {v : Value} {fp : List Nat} (h : Ty.At w t v fp) (hb : Below w.heap.size w w') : Ty.At w' t v fp :=
  h.congr fun b hm o => hb.cell (p := ⟨b, o, none⟩) (h.lt b hm)

theorem SlAt.congr {w w' : World} {ts : List Ty} {s : Value} {fp : List Nat} (h : SlAt w ts s fp) (hk : ∀ b ∈ fp, ∀ o, w'.cell? ⟨b, o, none⟩ = w.cell? ⟨b, o, none⟩) : SlAt w' ts s fp := by
  rcases h with h | ⟨b, o, cap, f, hs, hp, hc, hm, hl, rfl⟩
  · exact .inl h
  · exact .inr ⟨b, o, cap, f, hs, hp, hc, hm, hl.congr (hk b (by simp)) (fun b' hb' => hk b' (by simp [hb'])), rfl⟩

theorem SlAt.lt {w : World} {ts : List Ty} {s : Value} {fp : List Nat} (h : SlAt w ts s fp) : ∀ b ∈ fp, b < w.heap.size :=
  (Ty.at_mk (k := 0)|>.2 ⟨s, rfl, h⟩ : Ty.At w (.mk 0 ts) _ fp).lt

theorem SlAt.below {w w' : World} {ts : List Ty} {s : Value} {fp : List Nat} (h : SlAt w ts s fp) (hb : Below w.heap.size w w') : SlAt w' ts s fp :=
  h.congr fun b hm o => hb.cell (p := ⟨b, o, none⟩) (h.lt b hm)

/-- What a loop over a slice of trees takes: the slice's value, and each element's cells. -/
theorem SlAt.open {w : World} {ts : List Ty} {s : Value} {fp : List Nat} (h : SlAt w ts s fp) :
    ∃ a cap, s = .slice a ts.length cap ∧ ts.length ≤ cap ∧ ts.length ≤ 9223372036854775807 ∧ ∀ i, (h : i < ts.length) → ∃ b o v0 v1 f, a = some ⟨b, o, none⟩ ∧ b < w.heap.size ∧ w.cell? ⟨b, o + i * 2, none⟩ = some v0 ∧ w.cell? ⟨b, o + i * 2 + 1, none⟩ = some v1 ∧
      Ty.At w ts[i] (.agg #[v0, v1]) f ∧ (∀ x ∈ f, x ∈ fp) := by
  rcases h with ⟨rfl, rfl, a, cap, rfl⟩ | ⟨b, o, cap, f, rfl, hp, hc, hm, hl, rfl⟩
  · exact ⟨a, cap, rfl, Nat.zero_le _, by simp, fun i h => by simp at h⟩
  · refine ⟨some ⟨b, o, none⟩, cap, rfl, hc, hm, fun i h => ?_⟩
    obtain ⟨v0, v1, f1, c0, c1, hat, hf⟩ := Ty.atL_get hl i h
    exact ⟨b, o, v0, v1, f1, rfl, World.block_lt_of_cell? _ _ c0, c0, c1, hat, fun x hx => by simp [hf x hx]⟩

theorem ret_i {a b : Int} (h : a = b) : Ending.returned (.int .i64 a) = .returned (.int .i64 b) := by rw [h]
theorem ret_b {a b : Bool} (h : a = b) : Ending.returned (.bool a) = .returned (.bool b) := by rw [h]

theorem belowN {B : Nat} {w w' : World} (h : Below B w w') (n : Nat) : Below B w (w'.drewN n) := ⟨h.os, h.tape, h.output, h.size, h.block⟩

theorem alloc1 {w w' : World} {o : Obj} (h : Below (w.alloc o).heap.size (w.alloc o) w') : Below w.heap.size w w' :=
  Below.trans ((Below.refl _ _).alloc (Nat.le_refl _) _) (h.mono (by simp))

theorem below_trans {w w1 w2 : World} (h : Below w.heap.size w w1) (k : Below w1.heap.size w1 w2) : Below w.heap.size w w2 := h.trans (k.mono h.size)

mutual
theorem Ty.AtL.congrR {w w' : World} : ∀ {ts : List Ty} {b o : Nat} {fp : List Nat}, Ty.AtL w ts b o fp → (∀ o', o ≤ o' → o' < o + ts.length * 2 → w'.cell? ⟨b, o', none⟩ = w.cell? ⟨b, o', none⟩) → (∀ b ∈ fp, ∀ o, w'.cell? ⟨b, o, none⟩ = w.cell? ⟨b, o, none⟩) → Ty.AtL w' ts b o fp
  | [], _, _, _, h, _, _ => h
  | t :: ts, b, o, fp, h, hb, hk => by
    obtain ⟨v0, v1, f1, f2, c0, c1, ha, hl, rfl⟩ := h
    simp only [List.length_cons] at hb
    exact ⟨v0, v1, f1, f2, (hb _ (Nat.le_refl _) (by omega)).trans c0, (hb _ (by omega) (by omega)).trans c1, Ty.At.congr ha (fun x hx => hk x (List.mem_append_left _ hx)), Ty.AtL.congrR hl (fun o' h1 h2 => hb o' (by omega) (by omega)) (fun x hx => hk x (List.mem_append_right _ hx)), rfl⟩
end

theorem Ty.AtL.snoc {w : World} : ∀ {ts : List Ty} {t : Ty} {b o : Nat} {f1 f2 : List Nat} {v0 v1 : Value}, Ty.AtL w ts b o f1 → w.cell? ⟨b, o + ts.length * 2, none⟩ = some v0 → w.cell? ⟨b, o + ts.length * 2 + 1, none⟩ = some v1 → Ty.At w t (.agg #[v0, v1]) f2 → Ty.AtL w (ts ++ [t]) b o (f1 ++ f2)
  | [], t, b, o, f1, f2, v0, v1, h, c0, c1, ha => by
    cases h
    exact ⟨v0, v1, f2, [], by simpa using c0, by simpa using c1, ha, rfl, by simp⟩
  | u :: ts, t, b, o, f1, f2, v0, v1, h, c0, c1, ha => by
    obtain ⟨u0, u1, g1, g2, d0, d1, hu, hl, rfl⟩ := h
    simp only [List.length_cons] at c0 c1
    refine ⟨u0, u1, g1, g2 ++ f2, d0, d1, hu, Ty.AtL.snoc hl ?_ ?_ ha, by simp⟩
    · rw [show o + 2 + ts.length * 2 = o + (ts.length + 1) * 2 by omega]; exact c0
    · rw [show o + 2 + ts.length * 2 + 1 = o + (ts.length + 1) * 2 + 1 by omega]; exact c1

/-- Blocks that a call has made for its answer alone. -/
def Fresh (B : Nat) (w : World) (fp : List Nat) : Prop := fp.Nodup ∧ ∀ b ∈ fp, B ≤ b ∧ b < w.heap.size ∧ ∀ o, w.frozen? ⟨b, o, none⟩ = false

theorem Fresh.nil (B : Nat) (w : World) : Fresh B w [] := ⟨List.nodup_nil, by simp⟩

theorem Fresh.mono {B B' : Nat} {w : World} {fp : List Nat} (h : Fresh B w fp) (hB : B' ≤ B) : Fresh B' w fp := ⟨h.1, fun b hb => ⟨Nat.le_trans hB (h.2 b hb).1, (h.2 b hb).2⟩⟩

theorem Fresh.below {B : Nat} {w w' : World} {fp : List Nat} (h : Fresh B w fp) (hb : Below w.heap.size w w') : Fresh B w' fp :=
  ⟨h.1, fun b hm => ⟨(h.2 b hm).1, Nat.lt_of_lt_of_le (h.2 b hm).2.1 hb.size, fun o => (hb.frozen (p := ⟨b, o, none⟩) (h.2 b hm).2.1).trans ((h.2 b hm).2.2 o)⟩⟩

theorem Fresh.append {B B' : Nat} {w w' : World} {f1 f2 : List Nat} (h1 : Fresh B w f1) (h2 : Fresh B' w' f2) (hB : w.heap.size ≤ B') (hBB : B ≤ B') (hb : Below w.heap.size w w') : Fresh B w' (f1 ++ f2) := by
  have h1' := h1.below hb
  refine ⟨List.nodup_append.2 ⟨h1.1, h2.1, fun a ha b hb' e => ?_⟩, fun b hm => ?_⟩
  · have := (h1.2 a ha).2.1
    have := (h2.2 b hb').1
    omega
  · rcases List.mem_append.1 hm with hm | hm
    · exact h1'.2 b hm
    · exact ⟨Nat.le_trans hBB (h2.2 b hm).1, (h2.2 b hm).2⟩

/-- What a call says that hands back a tree in memory of its own. -/
def MadeT (w : World) (t : Ty) (e : Ending) (w' : World) : Prop := ∃ v fp, e = .returned v ∧ t.At w' v fp ∧ Fresh w.heap.size w' fp ∧ Below w.heap.size w w'

theorem cell_setCell_ne (w : World) (a : Addr) (u : Value) (b o : Nat) (h : b ≠ a.block) : (w.setCell a u).cell? ⟨b, o, none⟩ = w.cell? ⟨b, o, none⟩ :=
  World.cell?_of_block (w := w) (a := ⟨b, o, none⟩) (Below.heap_setCell w a u b h)

theorem frozen_setCell_ne (w : World) (a : Addr) (u : Value) (b o : Nat) (h : b ≠ a.block) : (w.setCell a u).frozen? ⟨b, o, none⟩ = w.frozen? ⟨b, o, none⟩ :=
  World.frozen?_of_block (w := w) (a := ⟨b, o, none⟩) (Below.heap_setCell w a u b h)

theorem size_setCell (w : World) (a : Addr) (u : Value) : (w.setCell a u).heap.size = w.heap.size := by simp [World.setCell]

/-- A store beside a tree's blocks. -/
theorem SlAt.setCell {w : World} {ts : List Ty} {s : Value} {fp : List Nat} (h : SlAt w ts s fp) {a : Addr} (hn : ∀ b ∈ fp, b ≠ a.block) (u : Value) : SlAt (w.setCell a u) ts s fp :=
  h.congr fun b hb o => cell_setCell_ne w a u b o (hn b hb)

theorem Ty.At.setCell {w : World} {t : Ty} {s : Value} {fp : List Nat} (h : Ty.At w t s fp) {a : Addr} (hn : ∀ b ∈ fp, b ≠ a.block) (u : Value) : Ty.At (w.setCell a u) t s fp :=
  h.congr fun b hb o => cell_setCell_ne w a u b o (hn b hb)

theorem Fresh.setCell {B : Nat} {w : World} {fp : List Nat} (h : Fresh B w fp) {a : Addr} (hn : ∀ b ∈ fp, b ≠ a.block) (u : Value) : Fresh B (w.setCell a u) fp :=
  ⟨h.1, fun b hb => ⟨(h.2 b hb).1, by rw [size_setCell]; exact (h.2 b hb).2.1, fun o => (frozen_setCell_ne w a u b o (hn b hb)).trans ((h.2 b hb).2.2 o)⟩⟩

mutual
/-- How many nodes lie below the root. -/
def Ty.cnt : Ty → Nat
  | .mk _ ts => ts.length + cntL ts
def cntL : List Ty → Nat
  | [] => 0
  | t :: ts => t.cnt + cntL ts
end

theorem cnt_mem : ∀ {ts : List Ty} {t : Ty}, t ∈ ts → t.cnt ≤ cntL ts
  | u :: ts, t, h => by
    simp only [cntL]
    rcases List.mem_cons.1 h with rfl | h
    · omega
    · have := cnt_mem h
      omega

theorem SlAt.shape {w : World} {ts : List Ty} {s : Value} {fp : List Nat} (h : SlAt w ts s fp) : ∃ a cap, s = .slice a ts.length cap :=
  let ⟨a, cap, hs, _⟩ := h.open
  ⟨a, cap, hs⟩

/-- From block lo on the world w' is as w was: what has been written lies below. -/
structure Above (lo : Nat) (w w' : World) : Prop where
  size : w.heap.size ≤ w'.heap.size
  block : ∀ k, lo ≤ k → k < w.heap.size → w'.heap[k]? = w.heap[k]?

theorem Above.refl (lo : Nat) (w : World) : Above lo w w := ⟨Nat.le_refl _, fun _ _ _ => rfl⟩

theorem Above.setCell {lo : Nat} {a w : World} (h : Above lo a w) {p : Addr} (hp : p.block < lo) (u : Value) : Above lo a (w.setCell p u) :=
  ⟨by rw [size_setCell]; exact h.size, fun k h1 h2 => (Below.heap_setCell _ _ _ _ (by omega)).trans (h.block k h1 h2)⟩

theorem SlAt.above {lo : Nat} {w w' : World} {ts : List Ty} {s : Value} {fp : List Nat} (h : SlAt w ts s fp) (ha : Above lo w w') (hlo : ∀ b ∈ fp, lo ≤ b) : SlAt w' ts s fp :=
  h.congr fun b hb o => World.cell?_of_block (w := w) (a := ⟨b, o, none⟩) (ha.block b (hlo b hb) (h.lt b hb))

theorem Ty.At.above {lo : Nat} {w w' : World} {t : Ty} {s : Value} {fp : List Nat} (h : Ty.At w t s fp) (ha : Above lo w w') (hlo : ∀ b ∈ fp, lo ≤ b) : Ty.At w' t s fp :=
  h.congr fun b hb o => World.cell?_of_block (w := w) (a := ⟨b, o, none⟩) (ha.block b (hlo b hb) (h.lt b hb))

theorem Fresh.above {lo B : Nat} {w w' : World} {fp : List Nat} (h : Fresh B w fp) (ha : Above lo w w') (hB : lo ≤ B) : Fresh B w' fp :=
  ⟨h.1, fun b hb => ⟨(h.2 b hb).1, Nat.lt_of_lt_of_le (h.2 b hb).2.1 ha.size, fun o =>
    (World.frozen?_of_block (w := w) (a := ⟨b, o, none⟩) (ha.block b (Nat.le_trans hB (h.2 b hb).1) (h.2 b hb).2.1)).trans ((h.2 b hb).2.2 o)⟩⟩

theorem Fresh.ge {B : Nat} {w : World} {fp : List Nat} (h : Fresh B w fp) : ∀ b ∈ fp, B ≤ b := fun b hb => (h.2 b hb).1

theorem heap_setCell_at {w : World} {M o : Nat} {C : Array Value} {T : TypeId} {fz : Nat × Nat} (h : w.heap[M]? = some (.cells C T fz)) (u : Value) : (w.setCell ⟨M, o, none⟩ u).heap[M]? = some (.cells (C.setIfInBounds o u) T fz) := by
  simp only [World.setCell, Array.getElem?_modify, h]
  simp

theorem cell_of_block {w : World} {M o : Nat} {C : Array Value} {T : TypeId} {fz : Nat × Nat} (h : w.heap[M]? = some (.cells C T fz)) : w.cell? ⟨M, o, none⟩ = C[o]? := by simp [World.cell?, h]

theorem frozen_of_block {w : World} {M o : Nat} {C : Array Value} {T : TypeId} (h : w.heap[M]? = some (.cells C T (0, 0))) : w.frozen? ⟨M, o, none⟩ = false := by simp [World.frozen?, h]

theorem lt_of_block {w : World} {M : Nat} {x : Obj} (h : w.heap[M]? = some x) : M < w.heap.size := by
  by_cases hl : M < w.heap.size
  · exact hl
  · rw [Array.getElem?_eq_none (by omega)] at h; cases h

theorem alloc_new (w : World) (o : Obj) : (w.alloc o).heap[w.heap.size]? = some o := by
  show (w.heap.push o)[w.heap.size]? = some o
  simp

/-- A block of n elements of which the first have been laid, each with memory of its own. -/
def Built (M : Nat) (T : TypeId) (n : Nat) (ds : List Ty) (fp : List Nat) (wr : World) : Prop :=
  ∃ C, wr.heap[M]? = some (.cells C T (0, 0)) ∧ C.size = n * 2 ∧ ds.length ≤ n ∧ Ty.AtL wr ds M 0 fp ∧ Fresh (M + 1) wr fp

theorem Built.zero {M : Nat} {T : TypeId} {n : Nat} {w : World} {C : Array Value} (h : w.heap[M]? = some (.cells C T (0, 0))) (hC : C.size = n * 2) : Built M T n [] [] w :=
  ⟨C, h, hC, Nat.zero_le _, by simp only [Ty.AtL], Fresh.nil _ _⟩

theorem Built.below {M : Nat} {T : TypeId} {n : Nat} {ds : List Ty} {fp : List Nat} {w w1 : World} (h : Built M T n ds fp w) (hb : Below w.heap.size w w1) : Built M T n ds fp w1 := by
  obtain ⟨C, hM, hC, hn, hl, hf⟩ := h
  exact ⟨C, (hb.block _ (lt_of_block hM)).trans hM, hC, hn, hl.congr (fun o => hb.cell (p := ⟨M, o, none⟩) (lt_of_block hM)) (fun b hm o => hb.cell (p := ⟨b, o, none⟩) (hl.lt b hm)), hf.below hb⟩

theorem Built.set {M : Nat} {T : TypeId} {n k : Nat} {ds : List Ty} {t : Ty} {x0 x1 : Value} {f fp : List Nat} {w : World} {lo : Nat} (h : Built M T n ds fp w) (hk : ds.length = k) (hlt : k < n) (ht : t.At w (.agg #[x0, x1]) f) (hlo : Fresh lo w f)
    (hsep : ∀ b ∈ fp, b < lo) (hM : M < lo) : Built M T n (ds ++ [t]) (fp ++ f) ((w.setCell ⟨M, k * 2, none⟩ x0).setCell ⟨M, k * 2 + 1, none⟩ x1) := by
  subst hk
  obtain ⟨C, hB, hC, hn, hl, hf⟩ := h
  have h1 := heap_setCell_at (o := ds.length * 2) hB x0
  have h2 := heap_setCell_at (o := ds.length * 2 + 1) h1 x1
  have hab := ((Above.refl (M + 1) w).setCell (p := ⟨M, ds.length * 2, none⟩) (Nat.lt_succ_self _) x0).setCell (p := ⟨M, ds.length * 2 + 1, none⟩) (Nat.lt_succ_self _) x1
  have hcl : ∀ o', o' < ds.length * 2 → ((w.setCell ⟨M, ds.length * 2, none⟩ x0).setCell ⟨M, ds.length * 2 + 1, none⟩ x1).cell? ⟨M, o', none⟩ = w.cell? ⟨M, o', none⟩ := by
    intro o' ho
    rw [cell_of_block h2, cell_of_block hB, Array.getElem?_setIfInBounds_ne (by omega), Array.getElem?_setIfInBounds_ne (by omega)]
  have hl' : Ty.AtL ((w.setCell ⟨M, ds.length * 2, none⟩ x0).setCell ⟨M, ds.length * 2 + 1, none⟩ x1) ds M 0 fp :=
    hl.congrR (fun o' _ h' => hcl o' (by omega)) (fun b hb o => World.cell?_of_block (w := w) (a := ⟨b, o, none⟩) (hab.block b (hf.ge b hb) (hl.lt b hb)))
  refine ⟨_, h2, by simp [hC], by simp; omega, hl'.snoc (v0 := x0) (v1 := x1) ?_ ?_ (ht.above hab (fun b hb => by have := hlo.ge b hb; omega)), ?_⟩
  · rw [Nat.zero_add, cell_of_block h2, Array.getElem?_setIfInBounds_ne (by omega)]
    simp [Array.getElem?_setIfInBounds, hC]; omega
  · rw [Nat.zero_add, cell_of_block h2]
    simp [Array.getElem?_setIfInBounds, hC]; omega
  · have hf1 := hf.above hab (Nat.le_refl _)
    have hf2 := hlo.above hab (by omega)
    refine ⟨List.nodup_append.2 ⟨hf1.1, hf2.1, fun a ha b hb e => ?_⟩, fun b hb => ?_⟩
    · have := hsep a ha
      have := hf2.ge b hb
      omega
    · rcases List.mem_append.1 hb with hb | hb
      · exact hf1.2 b hb
      · exact ⟨by have := hf2.ge b hb; omega, (hf2.2 b hb).2⟩

/-- One more element: the call that makes it, then the two stores. -/
theorem Built.step {M : Nat} {T : TypeId} {n k : Nat} {ds : List Ty} {t : Ty} {x0 x1 : Value} {f fp : List Nat} {w w1 : World} (h : Built M T n ds fp w) (hk : ds.length = k) (hlt : k < n) (hb : Below w.heap.size w w1) (ht : t.At w1 (.agg #[x0, x1]) f) (hf : Fresh w.heap.size w1 f) :
    Built M T n (ds ++ [t]) (fp ++ f) ((w1.setCell ⟨M, k * 2, none⟩ x0).setCell ⟨M, k * 2 + 1, none⟩ x1) :=
  (h.below hb).set hk hlt ht hf (let ⟨_, _, _, _, hl, _⟩ := h; hl.lt) (let ⟨_, hB, _⟩ := h; lt_of_block hB)

theorem Built.done {M : Nat} {T : TypeId} {n : Nat} {ds : List Ty} {fp : List Nat} {w : World} (h : Built M T n ds fp w) (hn : ds.length = n) (hm : n ≤ maxLen) : ∃ fp, SlAt w ds (.slice (some ⟨M, 0, none⟩) n n) fp ∧ Fresh M w fp := by
  obtain ⟨C, hB, hC, _, hl, hf⟩ := h
  subst hn
  by_cases h0 : ds.length = 0
  · exact ⟨[], .inl ⟨List.length_eq_zero_iff.1 h0, rfl, _, _, by rw [h0]⟩, Fresh.nil _ _⟩
  · refine ⟨M :: fp, .inr ⟨M, 0, _, fp, rfl, by omega, Nat.le_refl _, hm, hl, rfl⟩, List.nodup_cons.2 ⟨fun hm => by have := hf.ge _ hm; omega, hf.1⟩, fun b hb => ?_⟩
    rcases List.mem_cons.1 hb with rfl | hb
    · exact ⟨Nat.le_refl _, lt_of_block hB, fun o => frozen_of_block hB⟩
    · exact ⟨by have := hf.ge b hb; omega, (hf.2 b hb).2⟩

/-- The block's own cells, as a walk asks for them. -/
theorem Built.cells {M : Nat} {T : TypeId} {n k : Nat} {ds : List Ty} {fp : List Nat} {w w1 : World} (h : Built M T n ds fp w) (hlt : k < n) (hb : Below w.heap.size w w1) :
    ∃ y0 y1, w1.cell? ⟨M, k * 2, none⟩ = some y0 ∧ w1.cell? ⟨M, k * 2 + 1, none⟩ = some y1 ∧ ∀ o, w1.frozen? ⟨M, o, none⟩ = false := by
  obtain ⟨C, hB, hC, _⟩ := h.below hb
  exact ⟨C[k * 2]'(by omega), C[k * 2 + 1]'(by omega), by rw [cell_of_block hB]; exact Array.getElem?_eq_getElem _, by rw [cell_of_block hB]; exact Array.getElem?_eq_getElem _, fun o => frozen_of_block hB⟩

theorem Ty.shape (t : Ty) : ∃ k ts, t = .mk k ts := by cases t; exact ⟨_, _, rfl⟩

theorem Ty.At.agg {w : World} {t : Ty} {v : Value} {fp : List Nat} (h : t.At w v fp) : ∃ k n a cap, v = .agg #[.int .i64 k, .slice a n cap] := by
  obtain ⟨k, ts, rfl⟩ := t.shape
  obtain ⟨s, rfl, hs⟩ := Ty.at_mk.1 h
  obtain ⟨a, cap, rfl⟩ := hs.shape
  exact ⟨_, _, _, _, rfl⟩

/-- The same, each element's cells written out. -/
theorem SlAt.openA {w : World} {ts : List Ty} {s : Value} {fp : List Nat} (h : SlAt w ts s fp) :
    ∃ a cap, s = .slice a ts.length cap ∧ ts.length ≤ cap ∧ ts.length ≤ 9223372036854775807 ∧ ∀ i, (h : i < ts.length) → ∃ b o k1 n1 a1 cap1 f, a = some ⟨b, o, none⟩ ∧ b < w.heap.size ∧ w.cell? ⟨b, o + i * 2, none⟩ = some (.int .i64 k1) ∧ w.cell? ⟨b, o + i * 2 + 1, none⟩ = some (.slice a1 n1 cap1) ∧
      Ty.At w ts[i] (.agg #[.int .i64 k1, .slice a1 n1 cap1]) f ∧ (∀ x ∈ f, x ∈ fp) := by
  obtain ⟨a, cap, hs, hc, hm, hg⟩ := h.open
  refine ⟨a, cap, hs, hc, hm, fun i hi => ?_⟩
  obtain ⟨b, o, v0, v1, f, ha, hb, c0, c1, hat, hf⟩ := hg i hi
  obtain ⟨k1, n1, a1, cap1, hv⟩ := hat.agg
  simp only [Value.agg.injEq, Array.mk.injEq, List.cons.injEq, and_true] at hv
  obtain ⟨rfl, rfl⟩ := hv
  exact ⟨b, o, k1, n1, a1, cap1, f, ha, hb, c0, c1, hat, hf⟩

theorem cell_keep {w w' : World} {a : Addr} {v : Value} (h : w.cell? a = some v) (hb : Below w.heap.size w w') : w'.cell? a = some v :=
  (hb.cell (World.block_lt_of_cell? _ _ h)).trans h

theorem below_drew (w : World) : Below w.heap.size w w.drew := (Below.refl _ _).drew

theorem cell_keepB {B : Nat} {w w' : World} {a : Addr} {v : Value} (h : w.cell? a = some v) (hb : Below B w w') (ha : a.block < B) : w'.cell? a = some v := (hb.cell ha).trans h

end Go.Proofs.Ytolhfcpmhhhjpaa

namespace Go.Proofs.Ytolhfcpmhhhjpaa
open Go.RowKit

def isLb (lb : Int) : Bool := lb != 0 && decide (-99 ≤ lb) && decide (lb ≤ 99)

def absL (lb : Int) : Int := if lb < -99 ∨ 99 < lb then 0 else if lb < 0 then -lb else lb

theorem absL_lb {lb : Int} : isLb lb = (decide (1 ≤ absL lb) && decide (absL lb ≤ 99)) := by
  unfold absL isLb
  by_cases h0 : lb = 0
  · subst h0; decide
  have h1 : (lb != 0) = true := by simpa using h0
  rw [h1, Bool.true_and]
  by_cases h : lb < -99 ∨ 99 < lb
  · rw [if_pos h]
    have : (decide (-99 ≤ lb) && decide (lb ≤ 99)) = false := by simp; omega
    rw [this]
    rfl
  · rw [if_neg h]
    have : (decide (-99 ≤ lb) && decide (lb ≤ 99)) = true := by simp; omega
    rw [this]
    by_cases hn : lb < 0
    · rw [if_pos hn]; simp; omega
    · rw [if_neg hn]; simp; omega

set_option maxHeartbeats 400000 in
theorem l1Abs_any (lb : Int) (w : World) : Calls Try.prog 81 #[.int .i64 lb] w fun e w' => e = .returned (.int .i64 (absL lb)) ∧ w' = w := by
  by_cases h1 : lb < -99
  · have HR := hid (show absL lb = 0 by simp [absL, h1])
    go_enter Try.func81, Try.ntmps81
    go_wp2_with fail
    go_ret
    exact ⟨ret_i HR.out.symm, rfl⟩
  by_cases h2 : 99 < lb
  · have HR := hid (show absL lb = 0 by simp [absL, h2])
    have h3 : lb > 99 := h2
    go_enter Try.func81, Try.ntmps81
    go_wp2_with fail
    go_ret
    exact ⟨ret_i HR.out.symm, rfl⟩
  have h3 : ¬ lb > 99 := h2
  have hlo : -99 ≤ lb := by omega
  have hhi : lb ≤ 99 := by omega
  by_cases hn : lb < 0
  · have HR := hid (show absL lb = -lb by simp [absL, h1, h2, hn])
    go_enter Try.func81, Try.ntmps81
    go_wp2_with fail
    go_ret
    exact ⟨ret_i HR.out.symm, rfl⟩
  · have HR := hid (show absL lb = lb by simp [absL, h1, h2, hn])
    go_enter Try.func81, Try.ntmps81
    go_wp2_with fail
    go_ret
    exact ⟨ret_i HR.out.symm, rfl⟩

set_option maxHeartbeats 400000 in
theorem isLabel_any (lb : Int) (w : World) : Calls Try.prog 38 #[.int .i64 lb] w fun e w' => e = .returned (.bool (isLb lb)) ∧ w' = w := by
  by_cases h0 : lb = 0
  · subst h0
    go_enter Try.func38, Try.ntmps38
    go_wp2_with fail
    go_ret
    exact ⟨rfl, rfl⟩
  have h1 : (lb != 0) = true := by simpa using h0
  have h2 : (lb == 0) = false := by simpa using h0
  by_cases h3 : -99 ≤ lb
  · have HR := hid (show isLb lb = decide (lb ≤ 99) by simp [isLb, h1, h3])
    clear h0
    go_enter Try.func38, Try.ntmps38
    go_wp2_with fail
    go_ret
    exact ⟨ret_b HR.out.symm, rfl⟩
  · have HR := hid (show isLb lb = false by simp [isLb, h3])
    clear h0
    go_enter Try.func38, Try.ntmps38
    go_wp2_with fail
    go_ret
    exact ⟨ret_b HR.out.symm, rfl⟩

set_option maxHeartbeats 400000 in
theorem validOrZero_any (a b c : Bool) (w : World) :
    Calls Try.prog 109 #[.bool a, .bool b, .bool c] w fun e w' => e = .returned (.bool (if a then b else c)) ∧ w' = w := by
  cases a
  all_goals
    go_enter Try.func109, Try.ntmps109
    go_wp2_with fail
    go_ret
    exact ⟨rfl, rfl⟩

theorem absL_one {lb : Int} : decide (1 ≤ absL lb) = isLb lb := by
  rw [absL_lb]
  have : absL lb ≤ 99 := by unfold absL; split <;> (try split) <;> omega
  simp [this]

theorem l6Label_any (lb : Int) (w : World) : Calls Try.prog 41 #[.int .i64 lb] w fun e w' => e = .returned (.bool (isLb lb)) ∧ w' = w := by
  have HR := hid (absL_one (lb := lb))
  go_enter Try.func41, Try.ntmps41
  go_wp2_with fail
  refine (l1Abs_any _ _).mono ?_
  rintro e w1 ⟨rfl, rfl⟩
  generalize absL lb = r at *
  go_wp2_with fail
  go_ret
  exact ⟨ret_b HR.out, rfl⟩

end Go.Proofs.Ytolhfcpmhhhjpaa

namespace Go.Proofs.Ytolhfcpmhhhjpaa
open Go.RowKit

inductive Tm where
  | mk (k : Int) (nm : ByteArray) (num : Int) (ty fr : Ty) (lb : Int) (ts : List Tm)

theorem Tm.ind {P : Tm → Prop} (h : ∀ k nm num ty fr lb ts, (∀ t ∈ ts, P t) → P (.mk k nm num ty fr lb ts)) : ∀ t, P t
  | .mk k nm num ty fr lb ts => h k nm num ty fr lb ts (fun t _ => Tm.ind h t)

mutual
/-- In the world w the value v reads as the term; fp: the blocks of its slices. -/
def Tm.At (w : World) : Tm → Value → List Nat → Prop
  | .mk k nm num ty fr lb ts, v, fp => ∃ k1 s1 k2 s2 s f1 f2 f3, v = .agg #[.int .i64 k, .string nm, .int .i64 num, k1, s1, k2, s2, .int .i64 lb, s] ∧ nm.size ≤ maxLen ∧ Ty.At w ty (.agg #[k1, s1]) f1 ∧ Ty.At w fr (.agg #[k2, s2]) f2 ∧ fp = f1 ++ (f2 ++ f3) ∧
     ((ts = [] ∧ f3 = [] ∧ ∃ a cap, s = .slice a 0 cap) ∨
      ∃ b o cap f, s = .slice (some ⟨b, o, none⟩) ts.length cap ∧ 0 < ts.length ∧ ts.length ≤ cap ∧ ts.length ≤ maxLen ∧ Tm.AtL w ts b o f ∧ f3 = b :: f)
def Tm.AtL (w : World) : List Tm → Nat → Nat → List Nat → Prop
  | [], _, _, fp => fp = []
  | t :: ts, b, o, fp => ∃ cs f1 f2, (∀ i, i < 9 → w.cell? ⟨b, o + i, none⟩ = cs[i]?) ∧ Tm.At w t (.agg cs) f1 ∧ Tm.AtL w ts b (o + 9) f2 ∧ fp = f1 ++ f2
end

/-- A slice value that reads as a list of terms. -/
def SmAt (w : World) (ts : List Tm) (s : Value) (fp : List Nat) : Prop :=
  (ts = [] ∧ fp = [] ∧ ∃ a cap, s = .slice a 0 cap) ∨
  ∃ b o cap f, s = .slice (some ⟨b, o, none⟩) ts.length cap ∧ 0 < ts.length ∧ ts.length ≤ cap ∧ ts.length ≤ maxLen ∧ Tm.AtL w ts b o f ∧ fp = b :: f

theorem Tm.at_mk {w : World} {k : Int} {nm : ByteArray} {num : Int} {ty fr : Ty} {lb : Int} {ts : List Tm} {v : Value} {fp : List Nat} : Tm.At w (.mk k nm num ty fr lb ts) v fp ↔
    ∃ k1 s1 k2 s2 s f1 f2 f3, v = .agg #[.int .i64 k, .string nm, .int .i64 num, k1, s1, k2, s2, .int .i64 lb, s] ∧ nm.size ≤ maxLen ∧ Ty.At w ty (.agg #[k1, s1]) f1 ∧ Ty.At w fr (.agg #[k2, s2]) f2 ∧ fp = f1 ++ (f2 ++ f3) ∧ SmAt w ts s f3 := by
  simp only [Tm.At, SmAt]

theorem Tm.atL_get {w : World} : ∀ {ts : List Tm} {b o : Nat} {fp : List Nat}, Tm.AtL w ts b o fp → ∀ i, (h : i < ts.length) →
    ∃ cs f, (∀ j, j < 9 → w.cell? ⟨b, o + i * 9 + j, none⟩ = cs[j]?) ∧ Tm.At w ts[i] (.agg cs) f ∧ (∀ x ∈ f, x ∈ fp)
  | [], _, _, _, _, i, h => by simp at h
  | t :: ts, b, o, fp, hat, i, h => by
    simp only [Tm.AtL] at hat
    obtain ⟨cs, f1, f2, hc, ha, hl, rfl⟩ := hat
    cases i with
    | zero => exact ⟨cs, f1, fun j hj => by rw [Nat.zero_mul, Nat.add_zero]; exact hc j hj, ha, fun x hx => List.mem_append_left _ hx⟩
    | succ i =>
      obtain ⟨ds, f, hd, hb, hf⟩ := Tm.atL_get hl i (by simpa using h)
      refine ⟨ds, f, fun j hj => ?_, by simpa using hb, fun x hx => List.mem_append_right _ (hf x hx)⟩
      rw [show o + (i + 1) * 9 + j = o + 9 + i * 9 + j by omega]; exact hd j hj

mutual
/-- What reads so in one world reads so in each that has the same cells in its blocks. -/
theorem Tm.At.congr {w w' : World} : ∀ {t : Tm} {v : Value} {fp : List Nat}, Tm.At w t v fp → (∀ b ∈ fp, ∀ o, w'.cell? ⟨b, o, none⟩ = w.cell? ⟨b, o, none⟩) → Tm.At w' t v fp
  | .mk k nm num ty fr lb ts, v, fp, h, hk => by
    simp only [Tm.At] at h ⊢
    obtain ⟨k1, s1, k2, s2, s, f1, f2, f3, hv, hnm, h1, h2, rfl, h⟩ := h
    refine ⟨k1, s1, k2, s2, s, f1, f2, f3, hv, hnm, h1.congr (fun b hb => hk b (by simp [hb])), h2.congr (fun b hb => hk b (by simp [hb])), rfl, ?_⟩
    rcases h with h | ⟨b, o, cap, f, hs, hp, hc, hm, hl, rfl⟩
    · exact .inl h
    · exact .inr ⟨b, o, cap, f, hs, hp, hc, hm, Tm.AtL.congr hl (hk b (by simp)) (fun b' hb' => hk b' (by simp [hb'])), rfl⟩
theorem Tm.AtL.congr {w w' : World} : ∀ {ts : List Tm} {b o : Nat} {fp : List Nat}, Tm.AtL w ts b o fp → (∀ o, w'.cell? ⟨b, o, none⟩ = w.cell? ⟨b, o, none⟩) → (∀ b ∈ fp, ∀ o, w'.cell? ⟨b, o, none⟩ = w.cell? ⟨b, o, none⟩) → Tm.AtL w' ts b o fp
  | [], _, _, _, h, _, _ => by simp only [Tm.AtL] at h ⊢; exact h
  | t :: ts, b, o, fp, h, hb, hk => by
    simp only [Tm.AtL] at h ⊢
    obtain ⟨cs, f1, f2, hc, ha, hl, rfl⟩ := h
    exact ⟨cs, f1, f2, fun i hi => (hb _).trans (hc i hi), Tm.At.congr ha (fun x hx => hk x (List.mem_append_left _ hx)), Tm.AtL.congr hl hb (fun x hx => hk x (List.mem_append_right _ hx)), rfl⟩
end

mutual
theorem Tm.size9 {w : World} : ∀ {t : Tm} {cs : Array Value} {fp : List Nat}, Tm.At w t (.agg cs) fp → cs.size = 9
  | .mk k nm num ty fr lb ts, cs, fp, h => by
    simp only [Tm.At] at h
    obtain ⟨k1, s1, k2, s2, s, f1, f2, f3, hv, _⟩ := h
    cases hv
    rfl
end

mutual
/-- The blocks lie in the world. -/
theorem Tm.At.lt {w : World} : ∀ {t : Tm} {v : Value} {fp : List Nat}, Tm.At w t v fp → ∀ b ∈ fp, b < w.heap.size
  | .mk k nm num ty fr lb ts, v, fp, h => by
    simp only [Tm.At] at h
    obtain ⟨k1, s1, k2, s2, s, f1, f2, f3, hv, hnm, h1, h2, rfl, h⟩ := h
    intro x hx
    rcases List.mem_append.1 hx with hx | hx
    · exact h1.lt x hx
    rcases List.mem_append.1 hx with hx | hx
    · exact h2.lt x hx
    rcases h with ⟨_, rfl, _⟩ | ⟨b, o, cap, f, hs, hp, hc, hm, hl, rfl⟩
    · cases hx
    · rcases List.mem_cons.1 hx with rfl | hx
      · cases ts with
        | nil => simp at hp
        | cons t ts =>
          simp only [Tm.AtL] at hl
          obtain ⟨cs, f1, f2, hc, ha, _⟩ := hl
          have h9 := Tm.size9 ha
          have := hc 0 (by omega)
          rw [Array.getElem?_eq_getElem (by omega)] at this
          exact World.block_lt_of_cell? _ _ this
      · exact Tm.AtL.lt hl x hx
theorem Tm.AtL.lt {w : World} : ∀ {ts : List Tm} {b o : Nat} {fp : List Nat}, Tm.AtL w ts b o fp → ∀ b ∈ fp, b < w.heap.size
  | [], _, _, _, h => by simp only [Tm.AtL] at h; subst h; simp
  | t :: ts, b, o, fp, h => by
    simp only [Tm.AtL] at h
    obtain ⟨cs, f1, f2, hc, ha, hl, rfl⟩ := h
    intro x hx
    rcases List.mem_append.1 hx with hx | hx
    · exact Tm.At.lt ha x hx
    · exact Tm.AtL.lt hl x hx
end

theorem Tm.At.below {w w' : World} {t : Tm} {v : Value} {fp : List Nat} (h : Tm.At w t v fp) (hb : Below w.heap.size w w') : Tm.At w' t v fp :=
  h.congr fun b hm o => hb.cell (p := ⟨b, o, none⟩) (h.lt b hm)

theorem SmAt.congr {w w' : World} {ts : List Tm} {s : Value} {fp : List Nat} (h : SmAt w ts s fp) (hk : ∀ b ∈ fp, ∀ o, w'.cell? ⟨b, o, none⟩ = w.cell? ⟨b, o, none⟩) : SmAt w' ts s fp := by
  rcases h with h | ⟨b, o, cap, f, hs, hp, hc, hm, hl, rfl⟩
  · exact .inl h
  · exact .inr ⟨b, o, cap, f, hs, hp, hc, hm, hl.congr (hk b (by simp)) (fun b' hb' => hk b' (by simp [hb'])), rfl⟩

theorem SmAt.lt {w : World} {ts : List Tm} {s : Value} {fp : List Nat} (h : SmAt w ts s fp) : ∀ b ∈ fp, b < w.heap.size := by
  have h0 : Ty.At w (.mk 0 []) (.agg #[.int .i64 0, .slice none 0 0]) [] := Ty.at_mk.2 ⟨_, rfl, .inl ⟨rfl, rfl, _, _, rfl⟩⟩
  exact (Tm.at_mk (k := 0) (nm := ByteArray.empty) (num := 0) (lb := 0) |>.2 ⟨_, _, _, _, s, [], [], fp, rfl, by decide, h0, h0, rfl, h⟩).lt

theorem SmAt.below {w w' : World} {ts : List Tm} {s : Value} {fp : List Nat} (h : SmAt w ts s fp) (hb : Below w.heap.size w w') : SmAt w' ts s fp :=
  h.congr fun b hm o => hb.cell (p := ⟨b, o, none⟩) (h.lt b hm)

theorem Tm.shape (t : Tm) : ∃ k nm num ty fr lb ts, t = .mk k nm num ty fr lb ts := by cases t; exact ⟨_, _, _, _, _, _, _, rfl⟩

/-- What a loop over a slice of terms takes: the slice's value, and each element's cells, written out. -/
theorem SmAt.open {w : World} {ts : List Tm} {s : Value} {fp : List Nat} (h : SmAt w ts s fp) :
    ∃ a cap, s = .slice a ts.length cap ∧ ts.length ≤ cap ∧ ts.length ≤ 9223372036854775807 ∧ ∀ i, (h : i < ts.length) → ∃ b o k nm num k1 n1 a1 c1 k2 n2 a2 c2 lb n3 a3 c3 f, a = some ⟨b, o, none⟩ ∧ b < w.heap.size ∧
      w.cell? ⟨b, o + i * 9, none⟩ = some (.int .i64 k) ∧ w.cell? ⟨b, o + i * 9 + 1, none⟩ = some (.string nm) ∧ w.cell? ⟨b, o + i * 9 + 2, none⟩ = some (.int .i64 num) ∧
      w.cell? ⟨b, o + i * 9 + 3, none⟩ = some (.int .i64 k1) ∧ w.cell? ⟨b, o + i * 9 + 4, none⟩ = some (.slice a1 n1 c1) ∧ w.cell? ⟨b, o + i * 9 + 5, none⟩ = some (.int .i64 k2) ∧ w.cell? ⟨b, o + i * 9 + 6, none⟩ = some (.slice a2 n2 c2) ∧
      w.cell? ⟨b, o + i * 9 + 7, none⟩ = some (.int .i64 lb) ∧ w.cell? ⟨b, o + i * 9 + 8, none⟩ = some (.slice a3 n3 c3) ∧
      Tm.At w ts[i] (.agg #[.int .i64 k, .string nm, .int .i64 num, .int .i64 k1, .slice a1 n1 c1, .int .i64 k2, .slice a2 n2 c2, .int .i64 lb, .slice a3 n3 c3]) f ∧ (∀ x ∈ f, x ∈ fp) := by
  rcases h with ⟨rfl, rfl, a, cap, rfl⟩ | ⟨b, o, cap, f, rfl, hp, hc, hm, hl, rfl⟩
  · exact ⟨a, cap, rfl, Nat.zero_le _, by simp, fun i h => by simp at h⟩
  · refine ⟨some ⟨b, o, none⟩, cap, rfl, hc, hm, fun i h => ?_⟩
    obtain ⟨cs, f1, hcs, hat, hf⟩ := Tm.atL_get hl i h
    obtain ⟨k, nm, num, ty, fr, lb, us, hu⟩ := (ts[i]).shape
    rw [hu] at hat
    have hat0 := hat
    obtain ⟨k1, s1, k2, s2, s, g1, g2, g3, hv, hnm, h1, h2, rfl, h3⟩ := Tm.at_mk.1 hat
    obtain ⟨k1', n1, a1, c1, e1⟩ := h1.agg
    obtain ⟨k2', n2, a2, c2, e2⟩ := h2.agg
    simp only [Value.agg.injEq, Array.mk.injEq, List.cons.injEq, and_true] at e1 e2
    obtain ⟨rfl, rfl⟩ := e1
    obtain ⟨rfl, rfl⟩ := e2
    obtain ⟨a3, c3, rfl⟩ : ∃ a cap, s = .slice a us.length cap := by
      rcases h3 with ⟨rfl, rfl, a, cap, rfl⟩ | ⟨b, o, cap, f, rfl, _⟩
      · exact ⟨_, _, rfl⟩
      · exact ⟨_, _, rfl⟩
    cases hv
    have q := fun j hj => hcs j hj
    have q0 := q 0 (by omega)
    exact ⟨b, o, k, nm, num, k1', n1, a1, c1, k2', n2, a2, c2, lb, us.length, a3, c3, _, rfl, World.block_lt_of_cell? _ _ q0, q0, q 1 (by omega), q 2 (by omega), q 3 (by omega), q 4 (by omega), q 5 (by omega), q 6 (by omega), q 7 (by omega), q 8 (by omega),
      by rw [hu]; exact hat0, fun x hx => List.mem_cons_of_mem _ (hf x hx)⟩

theorem SmAt.shape {w : World} {ts : List Tm} {s : Value} {fp : List Nat} (h : SmAt w ts s fp) : ∃ a cap, s = .slice a ts.length cap :=
  let ⟨a, cap, hs, _⟩ := h.open
  ⟨a, cap, hs⟩

/-- A term's value written out, with its parts. -/
theorem Tm.At.parts {w : World} {k : Int} {nm : ByteArray} {num : Int} {ty fr : Ty} {lb : Int} {ts : List Tm} {v : Value} {fp : List Nat} (h : Tm.At w (.mk k nm num ty fr lb ts) v fp) :
    ∃ k1 n1 a1 c1 k2 n2 a2 c2 a3 c3 f1 f2 f3, v = .agg #[.int .i64 k, .string nm, .int .i64 num, .int .i64 k1, .slice a1 n1 c1, .int .i64 k2, .slice a2 n2 c2, .int .i64 lb, .slice a3 ts.length c3] ∧ nm.size ≤ 9223372036854775807 ∧
      Ty.At w ty (.agg #[.int .i64 k1, .slice a1 n1 c1]) f1 ∧ Ty.At w fr (.agg #[.int .i64 k2, .slice a2 n2 c2]) f2 ∧ fp = f1 ++ (f2 ++ f3) ∧ SmAt w ts (.slice a3 ts.length c3) f3 := by
  obtain ⟨k1, s1, k2, s2, s, g1, g2, g3, hv, hnm, h1, h2, rfl, h3⟩ := Tm.at_mk.1 h
  obtain ⟨k1', n1, a1, c1, e1⟩ := h1.agg
  obtain ⟨k2', n2, a2, c2, e2⟩ := h2.agg
  simp only [Value.agg.injEq, Array.mk.injEq, List.cons.injEq, and_true] at e1 e2
  obtain ⟨rfl, rfl⟩ := e1
  obtain ⟨rfl, rfl⟩ := e2
  obtain ⟨a3, c3, rfl⟩ := h3.shape
  exact ⟨_, _, _, _, _, _, _, _, _, _, _, _, _, hv, hnm, h1, h2, rfl, h3⟩

theorem Tm.At.agg {w : World} {t : Tm} {v : Value} {fp : List Nat} (h : t.At w v fp) : ∃ k nm num k1 n1 a1 c1 k2 n2 a2 c2 lb n3 a3 c3, v = .agg #[.int .i64 k, .string nm, .int .i64 num, .int .i64 k1, .slice a1 n1 c1, .int .i64 k2, .slice a2 n2 c2, .int .i64 lb, .slice a3 n3 c3] := by
  obtain ⟨k, nm, num, ty, fr, lb, ts, rfl⟩ := t.shape
  obtain ⟨k1, n1, a1, c1, k2, n2, a2, c2, a3, c3, f1, f2, f3, hv, _⟩ := h.parts
  exact ⟨_, _, _, _, _, _, _, _, _, _, _, _, _, _, _, hv⟩

theorem SmAt.above {lo : Nat} {w w' : World} {ts : List Tm} {s : Value} {fp : List Nat} (h : SmAt w ts s fp) (ha : Above lo w w') (hlo : ∀ b ∈ fp, lo ≤ b) : SmAt w' ts s fp :=
  h.congr fun b hb o => World.cell?_of_block (w := w) (a := ⟨b, o, none⟩) (ha.block b (hlo b hb) (h.lt b hb))

theorem Tm.At.above {lo : Nat} {w w' : World} {t : Tm} {s : Value} {fp : List Nat} (h : Tm.At w t s fp) (ha : Above lo w w') (hlo : ∀ b ∈ fp, lo ≤ b) : Tm.At w' t s fp :=
  h.congr fun b hb o => World.cell?_of_block (w := w) (a := ⟨b, o, none⟩) (ha.block b (hlo b hb) (h.lt b hb))

mutual
/-- How many bytes and nodes the laws count below the root. -/
def Tm.sz : Tm → Nat
  | .mk _ nm _ ty fr _ ts => nm.size + ty.cnt + fr.cnt + (ts.length + szML ts)
def szML : List Tm → Nat
  | [] => 0
  | t :: ts => t.sz + szML ts
end

end Go.Proofs.Ytolhfcpmhhhjpaa

namespace Go.Proofs.Ytolhfcpmhhhjpaa
open Go.RowKit

/-- Consecutive stores into one block. -/
def put (w : World) (b : Nat) : Nat → List Value → World
  | _, [] => w
  | o, v :: vs => put (w.setCell ⟨b, o, none⟩ v) b (o + 1) vs

def putA (C : Array Value) : Nat → List Value → Array Value
  | _, [] => C
  | o, v :: vs => putA (C.setIfInBounds o v) (o + 1) vs

theorem putA_size : ∀ (vs : List Value) (C : Array Value) (o : Nat), (putA C o vs).size = C.size
  | [], _, _ => rfl
  | v :: vs, C, o => by simp [putA, putA_size vs]

theorem putA_out : ∀ (vs : List Value) (C : Array Value) (o i : Nat), (i < o ∨ o + vs.length ≤ i) → (putA C o vs)[i]? = C[i]?
  | [], _, _, _, _ => rfl
  | v :: vs, C, o, i, h => by
    simp only [List.length_cons] at h
    rw [putA, putA_out vs _ _ _ (by omega), Array.getElem?_setIfInBounds_ne (by omega)]

theorem putA_in : ∀ (vs : List Value) (C : Array Value) (o i : Nat), i < vs.length → o + vs.length ≤ C.size → (putA C o vs)[o + i]? = vs[i]?
  | [], _, _, _, h, _ => by simp at h
  | v :: vs, C, o, i, h, hs => by
    simp only [List.length_cons] at h hs
    cases i with
    | zero =>
      rw [putA, putA_out _ _ _ _ (by omega)]
      simp [Array.getElem?_setIfInBounds]
      omega
    | succ i =>
      rw [putA, show o + (i + 1) = o + 1 + i by omega, putA_in vs _ _ i (by omega) (by simp; omega)]
      simp

theorem heap_put {b : Nat} {T : TypeId} {fz : Nat × Nat} : ∀ {vs : List Value} {w : World} {C : Array Value} {o : Nat}, w.heap[b]? = some (.cells C T fz) → (put w b o vs).heap[b]? = some (.cells (putA C o vs) T fz)
  | [], _, _, _, h => h
  | v :: vs, w, C, o, h => by
    rw [put, putA]
    exact heap_put (heap_setCell_at h v)

theorem Above.put {lo b : Nat} {a : World} : ∀ {vs : List Value} {w : World} {o : Nat}, Above lo a w → b < lo → Above lo a (put w b o vs)
  | [], _, _, h, _ => h
  | v :: vs, w, o, h, hb => by
    rw [Go.Proofs.Ytolhfcpmhhhjpaa.put]
    exact Above.put (h.setCell hb v) hb

theorem Tm.AtL.congrR {w w' : World} : ∀ {ts : List Tm} {b o : Nat} {fp : List Nat}, Tm.AtL w ts b o fp → (∀ o', o ≤ o' → o' < o + ts.length * 9 → w'.cell? ⟨b, o', none⟩ = w.cell? ⟨b, o', none⟩) → (∀ b ∈ fp, ∀ o, w'.cell? ⟨b, o, none⟩ = w.cell? ⟨b, o, none⟩) → Tm.AtL w' ts b o fp
  | [], _, _, _, h, _, _ => by simp only [Tm.AtL] at h ⊢; exact h
  | t :: ts, b, o, fp, h, hb, hk => by
    simp only [Tm.AtL] at h ⊢
    obtain ⟨cs, f1, f2, hc, ha, hl, rfl⟩ := h
    simp only [List.length_cons] at hb
    exact ⟨cs, f1, f2, fun i hi => (hb _ (by omega) (by omega)).trans (hc i hi), Tm.At.congr ha (fun x hx => hk x (List.mem_append_left _ hx)), Tm.AtL.congrR hl (fun o' h1 h2 => hb o' (by omega) (by omega)) (fun x hx => hk x (List.mem_append_right _ hx)), rfl⟩

theorem Tm.AtL.snoc {w : World} : ∀ {ts : List Tm} {t : Tm} {b o : Nat} {f1 f2 : List Nat} {cs : Array Value}, Tm.AtL w ts b o f1 → (∀ i, i < 9 → w.cell? ⟨b, o + ts.length * 9 + i, none⟩ = cs[i]?) → Tm.At w t (.agg cs) f2 → Tm.AtL w (ts ++ [t]) b o (f1 ++ f2)
  | [], t, b, o, f1, f2, cs, h, hc, ha => by
    simp only [Tm.AtL] at h
    subst h
    simp only [List.nil_append, Tm.AtL]
    exact ⟨cs, f2, [], fun i hi => by simpa using hc i hi, ha, rfl, by simp⟩
  | u :: ts, t, b, o, f1, f2, cs, h, hc, ha => by
    simp only [Tm.AtL] at h
    obtain ⟨ds, g1, g2, hd, hu, hl, rfl⟩ := h
    simp only [List.length_cons] at hc
    simp only [List.cons_append, Tm.AtL]
    refine ⟨ds, g1, g2 ++ f2, hd, hu, Tm.AtL.snoc hl (fun i hi => ?_) ha, by simp⟩
    rw [show o + 9 + ts.length * 9 + i = o + (ts.length + 1) * 9 + i by omega]
    exact hc i hi

/-- A block of n terms of which the first have been laid, each with memory of its own. -/
def BuiltM (M : Nat) (T : TypeId) (n : Nat) (ds : List Tm) (fp : List Nat) (wr : World) : Prop :=
  ∃ C, wr.heap[M]? = some (.cells C T (0, 0)) ∧ C.size = n * 9 ∧ ds.length ≤ n ∧ Tm.AtL wr ds M 0 fp ∧ Fresh (M + 1) wr fp

theorem BuiltM.zero {M : Nat} {T : TypeId} {n : Nat} {w : World} {C : Array Value} (h : w.heap[M]? = some (.cells C T (0, 0))) (hC : C.size = n * 9) : BuiltM M T n [] [] w :=
  ⟨C, h, hC, Nat.zero_le _, by simp only [Tm.AtL], Fresh.nil _ _⟩

theorem BuiltM.below {M : Nat} {T : TypeId} {n : Nat} {ds : List Tm} {fp : List Nat} {w w1 : World} (h : BuiltM M T n ds fp w) (hb : Below w.heap.size w w1) : BuiltM M T n ds fp w1 := by
  obtain ⟨C, hM, hC, hn, hl, hf⟩ := h
  exact ⟨C, (hb.block _ (lt_of_block hM)).trans hM, hC, hn, hl.congr (fun o => hb.cell (p := ⟨M, o, none⟩) (lt_of_block hM)) (fun b hm o => hb.cell (p := ⟨b, o, none⟩) (hl.lt b hm)), hf.below hb⟩

theorem BuiltM.set {M : Nat} {T : TypeId} {n k : Nat} {ds : List Tm} {t : Tm} {vs : List Value} {f fp : List Nat} {w : World} {lo : Nat} (h : BuiltM M T n ds fp w) (hk : ds.length = k) (hlt : k < n) (ht : t.At w (.agg vs.toArray) f) (hlo : Fresh lo w f)
    (hsep : ∀ b ∈ fp, b < lo) (hM : M < lo) : BuiltM M T n (ds ++ [t]) (fp ++ f) (put w M (k * 9) vs) := by
  subst hk
  obtain ⟨C, hB, hC, hn, hl, hf⟩ := h
  have h9 : vs.length = 9 := by simpa using Tm.size9 ht
  have h2 := heap_put (vs := vs) (o := ds.length * 9) hB
  have hab := Above.put (vs := vs) (o := ds.length * 9) (Above.refl (M + 1) w) (Nat.lt_succ_self M)
  have hcl : ∀ o', o' < ds.length * 9 → (put w M (ds.length * 9) vs).cell? ⟨M, o', none⟩ = w.cell? ⟨M, o', none⟩ := by
    intro o' ho
    rw [cell_of_block h2, cell_of_block hB, putA_out _ _ _ _ (.inl ho)]
  have hl' : Tm.AtL (put w M (ds.length * 9) vs) ds M 0 fp :=
    hl.congrR (fun o' _ h' => hcl o' (by omega)) (fun b hb o => World.cell?_of_block (w := w) (a := ⟨b, o, none⟩) (hab.block b (hf.ge b hb) (hl.lt b hb)))
  refine ⟨_, h2, by rw [putA_size]; exact hC, by simp; omega, hl'.snoc (cs := vs.toArray) (fun i hi => ?_) (ht.above hab (fun b hb => by have := hlo.ge b hb; omega)), ?_⟩
  · rw [Nat.zero_add, cell_of_block h2, putA_in _ _ _ _ (by omega) (by omega)]
    simp
  · have hf1 := hf.above hab (Nat.le_refl _)
    have hf2 := hlo.above hab (by omega)
    refine ⟨List.nodup_append.2 ⟨hf1.1, hf2.1, fun a ha b hb e => ?_⟩, fun b hb => ?_⟩
    · have := hsep a ha
      have := hf2.ge b hb
      omega
    · rcases List.mem_append.1 hb with hb | hb
      · exact hf1.2 b hb
      · exact ⟨by have := hf2.ge b hb; omega, (hf2.2 b hb).2⟩

/-- One more element: the call that makes it, then the nine stores. -/
theorem BuiltM.step {M : Nat} {T : TypeId} {n k : Nat} {ds : List Tm} {t : Tm} {vs : List Value} {f fp : List Nat} {w w1 : World} (h : BuiltM M T n ds fp w) (hk : ds.length = k) (hlt : k < n) (hb : Below w.heap.size w w1) (ht : t.At w1 (.agg vs.toArray) f) (hf : Fresh w.heap.size w1 f) :
    BuiltM M T n (ds ++ [t]) (fp ++ f) (put w1 M (k * 9) vs) :=
  (h.below hb).set hk hlt ht hf (let ⟨_, _, _, _, hl, _⟩ := h; hl.lt) (let ⟨_, hB, _⟩ := h; lt_of_block hB)

theorem BuiltM.done {M : Nat} {T : TypeId} {n : Nat} {ds : List Tm} {fp : List Nat} {w : World} (h : BuiltM M T n ds fp w) (hn : ds.length = n) (hm : n ≤ maxLen) : ∃ fp, SmAt w ds (.slice (some ⟨M, 0, none⟩) n n) fp ∧ Fresh M w fp := by
  obtain ⟨C, hB, hC, _, hl, hf⟩ := h
  subst hn
  by_cases h0 : ds.length = 0
  · exact ⟨[], .inl ⟨List.length_eq_zero_iff.1 h0, rfl, _, _, by rw [h0]⟩, Fresh.nil _ _⟩
  · refine ⟨M :: fp, .inr ⟨M, 0, _, fp, rfl, by omega, Nat.le_refl _, hm, hl, rfl⟩, List.nodup_cons.2 ⟨fun hm => by have := hf.ge _ hm; omega, hf.1⟩, fun b hb => ?_⟩
    rcases List.mem_cons.1 hb with rfl | hb
    · exact ⟨Nat.le_refl _, lt_of_block hB, fun o => frozen_of_block hB⟩
    · exact ⟨by have := hf.ge b hb; omega, (hf.2 b hb).2⟩

/-- The block's own cells, as a walk asks for them. -/
theorem BuiltM.cells {M : Nat} {T : TypeId} {n k : Nat} {ds : List Tm} {fp : List Nat} {w w1 : World} (h : BuiltM M T n ds fp w) (hlt : k < n) (hb : Below w.heap.size w w1) :
    (∃ y0 y1 y2 y3 y4 y5 y6 y7 y8, w1.cell? ⟨M, k * 9, none⟩ = some y0 ∧ w1.cell? ⟨M, k * 9 + 1, none⟩ = some y1 ∧ w1.cell? ⟨M, k * 9 + 2, none⟩ = some y2 ∧ w1.cell? ⟨M, k * 9 + 3, none⟩ = some y3 ∧ w1.cell? ⟨M, k * 9 + 4, none⟩ = some y4 ∧
      w1.cell? ⟨M, k * 9 + 5, none⟩ = some y5 ∧ w1.cell? ⟨M, k * 9 + 6, none⟩ = some y6 ∧ w1.cell? ⟨M, k * 9 + 7, none⟩ = some y7 ∧ w1.cell? ⟨M, k * 9 + 8, none⟩ = some y8) ∧ ∀ o, w1.frozen? ⟨M, o, none⟩ = false := by
  obtain ⟨C, hB, hC, _⟩ := h.below hb
  refine ⟨⟨C[k * 9]'(by omega), C[k * 9 + 1]'(by omega), C[k * 9 + 2]'(by omega), C[k * 9 + 3]'(by omega), C[k * 9 + 4]'(by omega), C[k * 9 + 5]'(by omega), C[k * 9 + 6]'(by omega), C[k * 9 + 7]'(by omega), C[k * 9 + 8]'(by omega), ?_⟩, fun o => frozen_of_block hB⟩
  simp only [cell_of_block hB]
  exact ⟨Array.getElem?_eq_getElem _, Array.getElem?_eq_getElem _, Array.getElem?_eq_getElem _, Array.getElem?_eq_getElem _, Array.getElem?_eq_getElem _, Array.getElem?_eq_getElem _, Array.getElem?_eq_getElem _, Array.getElem?_eq_getElem _, Array.getElem?_eq_getElem _⟩

end Go.Proofs.Ytolhfcpmhhhjpaa

namespace Go.Proofs.Ytolhfcpmhhhjpaa
open Go.RowKit

/-- How many operands a kind has; -1: there is no such kind. -/
def kidsOf (k : Int) : Int := if k = 1 ∨ k = 2 ∨ k = 3 then 0 else if k = 4 ∨ k = 5 then 2 else -1

/-- Well formed, down to a depth. -/
def shp : Nat → Ty → Bool
  | 0, _ => false
  | d + 1, .mk k ts => (kidsOf k == (ts.length : Int)) && ts.all (shp d)





theorem take_succ {ts : List Ty} {k : Nat} (h : k < ts.length) : ts.take (k + 1) = ts.take k ++ [ts[k]] := by
  rw [List.take_succ_eq_append_getElem h]

theorem shp_all {d : Nat} {ts : List Ty} {k : Nat} (h : k < ts.length) : (ts.drop k).all (shp d) = (shp d ts[k] && (ts.drop (k + 1)).all (shp d)) := by
  rw [List.drop_eq_getElem_cons h, List.all_cons]

/-- The cells of a struct of two that has just been boxed. -/
theorem box_cells {w wr : World} {x y : Value} {T : TypeId} (h : Below (w.alloc (Obj.cells #[x, y] T)).heap.size (w.alloc (Obj.cells #[x, y] T)) wr) :
    wr.cell? ⟨w.heap.size, 0, none⟩ = some x ∧ wr.cell? ⟨w.heap.size, 1, none⟩ = some y := by
  have hb := (h.block w.heap.size (by simp)).trans (alloc_new w _)
  exact ⟨by rw [cell_of_block hb]; rfl, by rw [cell_of_block hb]; rfl⟩

end Go.Proofs.Ytolhfcpmhhhjpaa

namespace Go.Proofs.Ytolhfcpmhhhjpaa
open Go.RowKit

theorem l1Kids_any (k : Int) (w : World) : Calls Try.prog 104 #[.int .i64 k] w fun e w' => e = .returned (.int .i64 (kidsOf k)) ∧ w' = w := by
  by_cases h1 : k = 1
  · subst h1
    go_enter Try.func104, Try.ntmps104
    go_wp2_with fail
    go_ret
    exact ⟨rfl, rfl⟩
  by_cases h2 : k = 2
  · subst h2
    go_enter Try.func104, Try.ntmps104
    go_wp2_with fail
    go_ret
    exact ⟨rfl, rfl⟩
  by_cases h3 : k = 3
  · subst h3
    go_enter Try.func104, Try.ntmps104
    go_wp2_with fail
    go_ret
    exact ⟨rfl, rfl⟩
  by_cases h4 : k = 4
  · subst h4
    go_enter Try.func104, Try.ntmps104
    go_wp2_with fail
    go_ret
    exact ⟨rfl, rfl⟩
  by_cases h5 : k = 5
  · subst h5
    go_enter Try.func104, Try.ntmps104
    go_wp2_with fail
    go_ret
    exact ⟨rfl, rfl⟩
  have H := hid (show kidsOf k = -1 by simp [kidsOf, h1, h2, h3, h4, h5])
  go_enter Try.func104, Try.ntmps104
  go_wp2_with fail
  go_ret
  exact ⟨ret_i H.out.symm, rfl⟩

def ShC (d : Nat) : Prop := ∀ (t : Ty) (v : Value) (fp : List Nat) (n : Int) (w : World), n ≤ 100 → n.toNat = d → t.At w v fp →
  Calls Try.prog 103 #[v, .int .i64 n] w fun e w' => e = .returned (.bool (shp d t)) ∧ Below w.heap.size w w'

set_option maxHeartbeats 400000 in
theorem l1Shape_zero : ShC 0 := by
  intro t v fp n w hn0 hn hat
  obtain ⟨k, m, a, cap, rfl⟩ := hat.agg
  have hn1 : n < 1 := by omega
  have hn2 : decide (n < 1) = true := by simp; omega
  clear hn
  go_enter Try.func103, Try.ntmps103
  go_wp2_with fail
  go_quiet (fail)
  go_wp2_with fail
  go_ret
  exact ⟨ret_b (by simp only [shp]), belowN ((Below.refl _ _).alloc (Nat.le_refl _) _) _⟩

set_option maxHeartbeats 400000 in
theorem l1Shape_succ (d : Nat) (ih : ShC d) : ShC (d + 1) := by
  intro t v fp n w hn0 hn hat
  have HIH := hid ih
  clear ih
  obtain ⟨k, ts, rfl⟩ := t.shape
  obtain ⟨s, rfl, hs⟩ := Ty.at_mk.1 hat
  obtain ⟨a, cap, rfl, hc, hm, hget⟩ := hs.open
  have HG := hid hget
  clear hget hat hs
  have hn1 : 1 ≤ n := by omega
  have hn2 : decide (n < 1) = false := by simp; omega
  have HN := hid hn
  clear hn
  by_cases hk : kidsOf k = (ts.length : Int)
  · have hk1 : (kidsOf k == (ts.length : Int)) = true := by simpa using hk
    have hk2 : (kidsOf k != (ts.length : Int)) = false := by simpa using hk
    have HT := hid (show shp (d + 1) (.mk k ts) = ts.all (shp d) by simp [shp, hk])
    clear hk
    go_enter Try.func103, Try.ntmps103
    go_wp2_with fail
    go_quiet ((go_at_call 104; exact Calls.quiet_of_same (l1Kids_any _ _)))
    go_wp2_with fail
    go_loopw [5] (fun i wr => ∃ j : Nat, j ≤ ts.length ∧ i = .int .i64 j ∧ (ts.drop j).all (shp d) = ts.all (shp d) ∧ Below (w.alloc (Obj.cells #[.int .i64 k, .slice a ts.length cap] 25)).heap.size (w.alloc (Obj.cells #[.int .i64 k, .slice a ts.length cap] 25)) wr) (fun i _ => ts.length - (intOf i).toNat)
    case atStart => exact ⟨0, Nat.zero_le _, rfl, rfl, belowN (Below.refl _ _) _⟩
    case round =>
      obtain ⟨j, hj, rfl, hdr, hb⟩ := hrel
      have HD := hid hdr
      clear hdr
      obtain ⟨x0, x1⟩ := box_cells hb
      by_cases hlk : j < ts.length
      · obtain ⟨b, o, v0, v1, f1, rfl, hblt, c0, c1, hat, hf⟩ := HG.out j hlk
        have hbw := alloc1 hb
        have d0 := (hbw.cell (p := ⟨b, o + j * 2, none⟩) hblt).trans c0
        have d1 := (hbw.cell (p := ⟨b, o + j * 2 + 1, none⟩) hblt).trans c1
        clear c0 c1
        have HST := hid (shp_all (d := d) hlk)
        go_wp2_with fail
        refine (HIH.out _ _ _ _ _ (by omega) (by have := HN.out; omega) (hat.below hbw)).mono ?_
        rintro e w1 ⟨rfl, hb1⟩
        have hbb := hb.trans (hb1.mono hb.size)
        clear hb hb1 hat d0 d1 hbw
        generalize shp d ts[j] = r at *
        cases r
        · go_wp2_with fail
          go_ret
          exact ⟨ret_b (by rw [HT.out, ← HD.out, HST.out, Bool.false_and]), alloc1 hbb⟩
        · go_wp2_with fail
          go_roundw
          case rel => exact ⟨j + 1, by omega, by go_num, by rw [← HD.out, HST.out, Bool.true_and], hbb⟩
          case measure => simp [intOf]; omega
      · go_wp2_with fail
        go_ret
        exact ⟨ret_b (by rw [HT.out, ← HD.out, List.drop_of_length_le (by omega), List.all_nil]), alloc1 hb⟩
  · have hk1 : (kidsOf k == (ts.length : Int)) = false := by simpa using hk
    have hk2 : (kidsOf k != (ts.length : Int)) = true := by simpa using hk
    have HT := hid (show shp (d + 1) (.mk k ts) = false by simp [shp, hk])
    clear hk
    go_enter Try.func103, Try.ntmps103
    go_wp2_with fail
    go_quiet ((go_at_call 104; exact Calls.quiet_of_same (l1Kids_any _ _)))
    go_wp2_with fail
    go_ret
    exact ⟨ret_b HT.out.symm, belowN ((Below.refl _ _).alloc (Nat.le_refl _) _) _⟩

theorem l1Shape_any (d : Nat) : ShC d := by
  induction d with
  | zero => exact l1Shape_zero
  | succ d ih => exact l1Shape_succ d ih

/-- The document's TypeValid. -/
def vld (t : Ty) : Bool := shp 4 t

theorem specTypeValid_any (t : Ty) (v : Value) (fp : List Nat) (w : World) (h : t.At w v fp) :
    Calls Try.prog 70 #[v] w fun e w' => e = .returned (.bool (vld t)) ∧ Below w.heap.size w w' := by
  obtain ⟨k, m, a, cap, rfl⟩ := h.agg
  go_enter Try.func70, Try.ntmps70
  go_wp2_with fail
  refine (l1Shape_any 4 t _ fp 4 _ (by omega) rfl (h.below ?_)).mono ?_
  · exact (Below.refl _ _).alloc (Nat.le_refl _) _
  rintro e w1 ⟨rfl, hb⟩
  generalize hr : shp 4 t = r
  have HR := hid hr
  clear hr
  go_wp2_with fail
  go_ret
  exact ⟨ret_b HR.out.symm, alloc1 hb⟩
end Go.Proofs.Ytolhfcpmhhhjpaa

namespace Go.Proofs.Ytolhfcpmhhhjpaa
open Go.RowKit

end Go.Proofs.Ytolhfcpmhhhjpaa

namespace Go.Proofs.Ytolhfcpmhhhjpaa
open Go.RowKit

end Go.Proofs.Ytolhfcpmhhhjpaa

namespace Go.Proofs.Ytolhfcpmhhhjpaa
open Go.RowKit

end Go.Proofs.Ytolhfcpmhhhjpaa

namespace Go.Proofs.Ytolhfcpmhhhjpaa
open Go.RowKit




end Go.Proofs.Ytolhfcpmhhhjpaa

namespace Go.Proofs.Ytolhfcpmhhhjpaa
open Go.RowKit

end Go.Proofs.Ytolhfcpmhhhjpaa

namespace Go.Proofs.Ytolhfcpmhhhjpaa
open Go.RowKit

mutual
def tyEq : Ty → Ty → Bool
  | .mk k ts, .mk k' us => (k == k') && tyEqL ts us
def tyEqL : List Ty → List Ty → Bool
  | [], [] => true
  | t :: ts, u :: us => tyEq t u && tyEqL ts us
  | _, _ => false
end

mutual
theorem tyEq_refl : ∀ t : Ty, tyEq t t = true
  | .mk k ts => by simp [tyEq, tyEqL_refl ts]
theorem tyEqL_refl : ∀ ts : List Ty, tyEqL ts ts = true
  | [] => by simp only [tyEqL]
  | t :: ts => by simp [tyEqL, tyEq_refl t, tyEqL_refl ts]
end

mutual
theorem eq_of_tyEq : ∀ {t u : Ty}, tyEq t u = true → t = u
  | .mk k ts, .mk k' us, h => by
    simp only [tyEq, Bool.and_eq_true, beq_iff_eq] at h
    rw [h.1, eq_of_tyEqL h.2]
theorem eq_of_tyEqL : ∀ {ts us : List Ty}, tyEqL ts us = true → ts = us
  | [], [], _ => rfl
  | [], _ :: _, h => by simp only [tyEqL] at h; cases h
  | _ :: _, [], h => by simp only [tyEqL] at h; cases h
  | t :: ts, u :: us, h => by
    simp only [tyEqL, Bool.and_eq_true] at h
    rw [eq_of_tyEq h.1, eq_of_tyEqL h.2]
end

theorem tyEq_comm (t u : Ty) : tyEq t u = tyEq u t := by
  cases h : tyEq t u with
  | true => rw [eq_of_tyEq h, tyEq_refl]
  | false =>
    cases h' : tyEq u t with
    | false => rfl
    | true => rw [eq_of_tyEq h', tyEq_refl] at h; cases h

end Go.Proofs.Ytolhfcpmhhhjpaa

namespace Go.Proofs.Ytolhfcpmhhhjpaa
open Go.RowKit

mutual
/-- Consistent, of well-formed types. -/
def cons : Ty → Ty → Bool
  | .mk k ts, .mk k' us => if k = 1 ∨ k' = 1 then true else if k = k' then consL ts us else false
def consL : List Ty → List Ty → Bool
  | t :: ts, u :: us => cons t u && consL ts us
  | _, _ => true
end

mutual
/-- At least as precise, of well-formed types. -/
def prec : Ty → Ty → Bool
  | .mk k ts, .mk k' us => if k' = 1 then true else if k = k' then precL ts us else false
def precL : List Ty → List Ty → Bool
  | t :: ts, u :: us => prec t u && precL ts us
  | _, _ => true
end

/-- Well formed, to some depth. -/
def wf (t : Ty) : Prop := ∃ d, shp d t = true

theorem wf_mk {k : Int} {ts : List Ty} (h : wf (.mk k ts)) : kidsOf k = (ts.length : Int) ∧ ∀ t ∈ ts, wf t := by
  obtain ⟨d, hd⟩ := h
  cases d with
  | zero => simp [shp] at hd
  | succ d =>
    simp only [shp, Bool.and_eq_true, beq_iff_eq, List.all_eq_true] at hd
    exact ⟨hd.1, fun t ht => ⟨d, hd.2 t ht⟩⟩

theorem wf_of_vld {t : Ty} (h : vld t = true) : wf t := ⟨4, h⟩

theorem wf_len {k : Int} {ts us : List Ty} (h : wf (.mk k ts)) (h' : wf (.mk k us)) : ts.length = us.length := by
  have := (wf_mk h).1
  have := (wf_mk h').1
  omega

theorem consL_step {ts us : List Ty} {k : Nat} (h : k < ts.length) (h' : k < us.length) : consL (ts.drop k) (us.drop k) = (cons ts[k] us[k] && consL (ts.drop (k + 1)) (us.drop (k + 1))) := by
  rw [List.drop_eq_getElem_cons h, List.drop_eq_getElem_cons h', consL]

theorem box_cells2 {w wr : World} {x y x' y' : Value} {T T' : TypeId} (h : Below ((w.alloc (Obj.cells #[x, y] T)).alloc (Obj.cells #[x', y'] T')).heap.size ((w.alloc (Obj.cells #[x, y] T)).alloc (Obj.cells #[x', y'] T')) wr) :
    wr.cell? ⟨w.heap.size, 0, none⟩ = some x ∧ wr.cell? ⟨w.heap.size, 1, none⟩ = some y ∧ wr.cell? ⟨w.heap.size + 1, 0, none⟩ = some x' ∧ wr.cell? ⟨w.heap.size + 1, 1, none⟩ = some y' := by
  have hs : (w.alloc (Obj.cells #[x, y] T)).heap.size = w.heap.size + 1 := by simp
  have h1 : wr.heap[w.heap.size + 1]? = some (Obj.cells #[x', y'] T') := by
    rw [h.block (w.heap.size + 1) (by simp), ← hs]
    exact alloc_new _ _
  have h0 := (h.block w.heap.size (by simp; omega)).trans ((Below.heap_alloc _ _ _ (by simp)).trans (alloc_new w _))
  exact ⟨by rw [cell_of_block h0]; rfl, by rw [cell_of_block h0]; rfl, by rw [cell_of_block h1]; rfl, by rw [cell_of_block h1]; rfl⟩

theorem alloc2 {w w' : World} {o o' : Obj} (h : Below ((w.alloc o).alloc o').heap.size ((w.alloc o).alloc o') w') : Below w.heap.size w w' := alloc1 (alloc1 h)

end Go.Proofs.Ytolhfcpmhhhjpaa

namespace Go.Proofs.Ytolhfcpmhhhjpaa
open Go.RowKit

theorem typeOperands_any (k : Int) (w : World) : Calls Try.prog 106 #[.int .i64 k] w fun e w' => e = .returned (.int .i64 (kidsOf k)) ∧ w' = w := by
  by_cases h1 : k = 1
  · subst h1
    go_enter Try.func106, Try.ntmps106
    go_wp2_with fail
    go_ret
    exact ⟨rfl, rfl⟩
  by_cases h2 : k = 2
  · subst h2
    go_enter Try.func106, Try.ntmps106
    go_wp2_with fail
    go_ret
    exact ⟨rfl, rfl⟩
  by_cases h3 : k = 3
  · subst h3
    go_enter Try.func106, Try.ntmps106
    go_wp2_with fail
    go_ret
    exact ⟨rfl, rfl⟩
  by_cases h4 : k = 4
  · subst h4
    go_enter Try.func106, Try.ntmps106
    go_wp2_with fail
    go_ret
    exact ⟨rfl, rfl⟩
  by_cases h5 : k = 5
  · subst h5
    go_enter Try.func106, Try.ntmps106
    go_wp2_with fail
    go_ret
    exact ⟨rfl, rfl⟩
  have H := hid (show kidsOf k = -1 by simp [kidsOf, h1, h2, h3, h4, h5])
  go_enter Try.func106, Try.ntmps106
  go_wp2_with fail
  go_ret
  exact ⟨ret_i H.out.symm, rfl⟩

def VwC (d : Nat) : Prop := ∀ (t : Ty) (v : Value) (fp : List Nat) (n : Int) (w : World), n ≤ 100 → n.toNat = d → t.At w v fp →
  Calls Try.prog 87 #[v, .int .i64 n] w fun e w' => e = .returned (.bool (shp d t)) ∧ Below w.heap.size w w'

set_option maxHeartbeats 400000 in
theorem validWithin_zero : VwC 0 := by
  intro t v fp n w hn0 hn hat
  obtain ⟨k, m, a, cap, rfl⟩ := hat.agg
  have hn1 : n < 1 := by omega
  have hn2 : decide (n < 1) = true := by simp; omega
  clear hn
  go_enter Try.func87, Try.ntmps87
  go_wp2_with fail
  go_quiet (fail)
  go_wp2_with fail
  go_ret
  exact ⟨ret_b (by simp only [shp]), belowN ((Below.refl _ _).alloc (Nat.le_refl _) _) _⟩

set_option maxHeartbeats 400000 in
theorem validWithin_succ (d : Nat) (ih : VwC d) : VwC (d + 1) := by
  intro t v fp n w hn0 hn hat
  have HIH := hid ih
  clear ih
  obtain ⟨k, ts, rfl⟩ := t.shape
  obtain ⟨s, rfl, hs⟩ := Ty.at_mk.1 hat
  obtain ⟨a, cap, rfl, hc, hm, hget⟩ := hs.openA
  have HG := hid hget
  clear hget hat hs
  have hn1 : 1 ≤ n := by omega
  have hn2 : decide (n < 1) = false := by simp; omega
  have HN := hid hn
  clear hn
  by_cases hk : kidsOf k = (ts.length : Int)
  · have hk1 : ((ts.length : Int) == kidsOf k) = true := by simp [hk]
    have hk2 : ((ts.length : Int) != kidsOf k) = false := by simp [hk]
    have HT := hid (show shp (d + 1) (.mk k ts) = ts.all (shp d) by simp [shp, hk])
    clear hk
    go_enter Try.func87, Try.ntmps87
    go_wp2_with fail
    go_quiet ((go_at_call 106; exact Calls.quiet_of_same (typeOperands_any _ _)))
    go_wp2_with fail
    go_loopw [21] (fun i wr => ∃ j : Nat, j ≤ ts.length ∧ i = .int .i64 j ∧ (ts.drop j).all (shp d) = ts.all (shp d) ∧ Below (w.alloc (Obj.cells #[.int .i64 k, .slice a ts.length cap] 25)).heap.size (w.alloc (Obj.cells #[.int .i64 k, .slice a ts.length cap] 25)) wr) (fun i _ => ts.length - (intOf i).toNat)
    case atStart => exact ⟨0, Nat.zero_le _, rfl, rfl, belowN (Below.refl _ _) _⟩
    case round =>
      obtain ⟨j, hj, rfl, hdr, hb⟩ := hrel
      have HD := hid hdr
      clear hdr
      obtain ⟨x0, x1⟩ := box_cells hb
      by_cases hlk : j < ts.length
      · obtain ⟨b, o, k1, n1, a1, cap1, f1, rfl, hblt, c0, c1, hat, hf⟩ := HG.out j hlk
        have hbw := alloc1 hb
        have d0 := (hbw.cell (p := ⟨b, o + j * 2, none⟩) hblt).trans c0
        have d1 := (hbw.cell (p := ⟨b, o + j * 2 + 1, none⟩) hblt).trans c1
        clear c0 c1
        have HST := hid (shp_all (d := d) hlk)
        go_wp2_with fail
        refine (HIH.out _ _ _ _ _ (by omega) (by have := HN.out; omega) (hat.below ?_)).mono ?_
        · exact hbw.alloc (by have := hbw.size; omega) _
        rintro e w1 ⟨rfl, hb1⟩
        have hbb := hb.trans ((alloc1 hb1).mono hb.size)
        clear hb hb1 hat d0 d1 hbw
        generalize shp d ts[j] = r at *
        cases r
        · go_wp2_with fail
          go_ret
          exact ⟨ret_b (by rw [HT.out, ← HD.out, HST.out, Bool.false_and]), alloc1 hbb⟩
        · go_wp2_with fail
          go_roundw
          case rel => exact ⟨j + 1, by omega, by go_num, by rw [← HD.out, HST.out, Bool.true_and], hbb⟩
          case measure => simp [intOf]; omega
      · go_wp2_with fail
        go_ret
        exact ⟨ret_b (by rw [HT.out, ← HD.out, List.drop_of_length_le (by omega), List.all_nil]), alloc1 hb⟩
  · have hk1 : ((ts.length : Int) == kidsOf k) = false := by simpa using fun h => hk h.symm
    have hk2 : ((ts.length : Int) != kidsOf k) = true := by simpa using fun h => hk h.symm
    have HT := hid (show shp (d + 1) (.mk k ts) = false by simp [shp, hk])
    clear hk
    go_enter Try.func87, Try.ntmps87
    go_wp2_with fail
    go_quiet ((go_at_call 106; exact Calls.quiet_of_same (typeOperands_any _ _)))
    go_wp2_with fail
    go_ret
    exact ⟨ret_b HT.out.symm, belowN ((Below.refl _ _).alloc (Nat.le_refl _) _) _⟩

theorem validWithin_any (d : Nat) : VwC d := by
  induction d with
  | zero => exact validWithin_zero
  | succ d ih => exact validWithin_succ d ih

theorem implTypeValid_any (t : Ty) (v : Value) (fp : List Nat) (w : World) (h : t.At w v fp) :
    Calls Try.prog 50 #[v] w fun e w' => e = .returned (.bool (vld t)) ∧ Below w.heap.size w w' := by
  obtain ⟨k, m, a, cap, rfl⟩ := h.agg
  go_enter Try.func50, Try.ntmps50
  go_wp2_with fail
  refine (validWithin_any 4 t _ fp 4 _ (by omega) rfl (h.below ?_)).mono ?_
  · exact (Below.refl _ _).alloc (Nat.le_refl _) _
  rintro e w1 ⟨rfl, hb⟩
  generalize hr : shp 4 t = r
  have HR := hid hr
  clear hr
  go_wp2_with fail
  go_ret
  exact ⟨ret_b HR.out.symm, alloc1 hb⟩
end Go.Proofs.Ytolhfcpmhhhjpaa

namespace Go.Proofs.Ytolhfcpmhhhjpaa
open Go.RowKit

mutual
/-- The trees of a slice, marked from a number on. -/
def mkL : List Ty → Int → List Ty
  | [], _ => []
  | .mk _ us :: ts, m => .mk m (mkL us (m + 1)) :: mkL ts (m + 1 + (Ty.mk 0 us).cnt)
end

/-- How many numbers the first j trees use. -/
def off : List Ty → Nat → Int
  | [], _ => 0
  | _ :: _, 0 => 0
  | t :: ts, j + 1 => 1 + t.cnt + off ts j

def kidsT : Ty → List Ty
  | .mk _ ts => ts

/-- Element i of a row of trees. -/
def Elem (w : World) (b o i : Nat) (t : Ty) (f : List Nat) : Prop := ∃ k s, w.cell? ⟨b, o + i * 2, none⟩ = some (.int .i64 k) ∧ w.cell? ⟨b, o + i * 2 + 1, none⟩ = some s ∧ SlAt w (kidsT t) s f ∧ t = .mk k (kidsT t)

theorem idx_atL {w : World} {b : Nat} : ∀ {ts : List Ty} {o : Nat} {fps : List (List Nat)}, fps.length = ts.length → (∀ i (h : i < ts.length) (h' : i < fps.length), Elem w b o i ts[i] fps[i]) → Ty.AtL w ts b o fps.flatten
  | [], o, [], _, _ => by simp [Ty.AtL]
  | t :: ts, o, f :: fps, hl, h => by
    obtain ⟨k, s, e0, e1, e2, e3⟩ := h 0 (by simp) (by simp)
    refine ⟨_, _, f, fps.flatten, by simpa using e0, by simpa using e1, ?_, idx_atL (by simpa using hl) (fun i hi hi' => ?_), by simp⟩
    · simp only [List.getElem_cons_zero] at e2 e3
      rw [e3]
      exact Ty.at_mk.2 ⟨_, rfl, e2⟩
    · obtain ⟨k, s, e0, e1, e2⟩ := h (i + 1) (by simpa using hi) (by simpa using hi')
      exact ⟨k, s, by rw [show o + 2 + i * 2 = o + (i + 1) * 2 by omega]; exact e0, by rw [show o + 2 + i * 2 + 1 = o + (i + 1) * 2 + 1 by omega]; exact e1, e2⟩

/-- Of the old blocks only those of fp have been written; the marks of what is frozen stand. -/
structure Only (fp : List Nat) (w w' : World) : Prop where
  os : w'.os = w.os
  tape : w'.tape = w.tape
  output : w'.output = w.output
  size : w.heap.size ≤ w'.heap.size
  block : ∀ k, k < w.heap.size → k ∉ fp → w'.heap[k]? = w.heap[k]?
  frozen : ∀ k o, k < w.heap.size → w'.frozen? ⟨k, o, none⟩ = w.frozen? ⟨k, o, none⟩

theorem Only.refl (fp : List Nat) (w : World) : Only fp w w := ⟨rfl, rfl, rfl, Nat.le_refl _, fun _ _ _ => rfl, fun _ _ _ => rfl⟩

theorem Only.trans {fp : List Nat} {a b c : World} (h : Only fp a b) (k : Only fp b c) : Only fp a c :=
  ⟨k.os.trans h.os, k.tape.trans h.tape, k.output.trans h.output, Nat.le_trans h.size k.size, fun i hi hn => (k.block i (Nat.lt_of_lt_of_le hi h.size) hn).trans (h.block i hi hn), fun i o hi => (k.frozen i o (Nat.lt_of_lt_of_le hi h.size)).trans (h.frozen i o hi)⟩

theorem Only.below {fp : List Nat} {B : Nat} {w w' : World} (h : Only fp w w') (hB : ∀ x ∈ fp, B ≤ x) (hw : B ≤ w.heap.size) : Below B w w' :=
  ⟨h.os, h.tape, h.output, h.size, fun k hk => h.block k (by omega) (fun hm => by have := hB k hm; omega)⟩

theorem frozen_setCell (w : World) (a : Addr) (u : Value) (b o : Nat) : (w.setCell a u).frozen? ⟨b, o, none⟩ = w.frozen? ⟨b, o, none⟩ := by
  by_cases h : b = a.block
  · subst h
    simp only [World.frozen?, World.setCell, Array.getElem?_modify]
    cases hb : w.heap[a.block]? with
    | none => simp
    | some x => cases x <;> simp
  · exact frozen_setCell_ne w a u b o h

theorem Only.setCell {fp : List Nat} {w : World} {b o : Nat} (hb : b ∈ fp) (u : Value) : Only fp w (w.setCell ⟨b, o, none⟩ u) :=
  ⟨rfl, rfl, rfl, by rw [size_setCell]; exact Nat.le_refl _, fun k _ hn => Below.heap_setCell _ _ _ _ (fun e => hn (e ▸ hb)), fun k o' _ => frozen_setCell _ _ _ _ _⟩

theorem Elem.only {w w' : World} {b o i : Nat} {t : Ty} {f g : List Nat} (h : Elem w b o i t f) (hg : Only g w w') (hb : b ∉ g) (hlt : b < w.heap.size) (hd : ∀ x ∈ f, x ∉ g) : Elem w' b o i t f := by
  obtain ⟨k, s, e0, e1, e2, e3⟩ := h
  have hc : ∀ o', w'.cell? ⟨b, o', none⟩ = w.cell? ⟨b, o', none⟩ := fun o' => World.cell?_of_block (w := w) (a := ⟨b, o', none⟩) (hg.block b hlt hb)
  exact ⟨k, s, (hc _).trans e0, (hc _).trans e1, e2.congr (fun x hx o' => World.cell?_of_block (w := w) (a := ⟨x, o', none⟩) (hg.block x (e2.lt x hx) (hd x hx))), e3⟩

theorem cell_setCell_self {w : World} {b o : Nat} {v : Value} (h : w.cell? ⟨b, o, none⟩ = some v) (u : Value) : (w.setCell ⟨b, o, none⟩ u).cell? ⟨b, o, none⟩ = some u := by
  simp only [World.cell?, World.setCell, Array.getElem?_modify] at *
  cases hb : w.heap[b]? with
  | none => rw [hb] at h; cases h
  | some x =>
    rw [hb] at h
    cases x <;> simp_all [Array.getElem?_setIfInBounds]
    exact (Array.getElem?_eq_some_iff.1 h).1

theorem cell_setCell_other {w : World} {b o o' : Nat} (ho : o' ≠ o) (u : Value) : (w.setCell ⟨b, o, none⟩ u).cell? ⟨b, o', none⟩ = w.cell? ⟨b, o', none⟩ := by
  simp only [World.cell?, World.setCell, Array.getElem?_modify]
  cases hb : w.heap[b]? with
  | none => simp
  | some x => cases x <;> simp [Array.getElem?_setIfInBounds_ne (Ne.symm ho)]

/-- Which trees stand in the row behind j rounds. -/
def part (ts : List Ty) (m : Int) (j i : Nat) : Ty := if i < j then (mkL ts m)[i]?.getD (.mk 0 []) else ts[i]?.getD (.mk 0 [])

theorem Elem.lt {w : World} {b o i : Nat} {t : Ty} {f : List Nat} (h : Elem w b o i t f) : ∀ x ∈ f, x < w.heap.size := by
  obtain ⟨k, s, _, _, e2, _⟩ := h
  exact e2.lt

end Go.Proofs.Ytolhfcpmhhhjpaa

namespace Go.Proofs.Ytolhfcpmhhhjpaa
open Go.RowKit

end Go.Proofs.Ytolhfcpmhhhjpaa

namespace Go.Proofs.Ytolhfcpmhhhjpaa
open Go.RowKit

theorem Ty.At.only {w w' : World} {f g : List Nat} {t : Ty} {v : Value} (h : t.At w v g) (hon : Only f w w') (hd : ∀ b ∈ g, b ∉ f) : t.At w' v g :=
  h.congr fun b hb o => World.cell?_of_block (w := w) (a := ⟨b, o, none⟩) (hon.block b (h.lt b hb) (hd b hb))

/-- A footprint within two bounds. -/
def Within (lo hi : Nat) (f : List Nat) : Prop := ∀ b ∈ f, lo ≤ b ∧ b < hi

theorem Fresh.within {B : Nat} {w : World} {f : List Nat} (h : Fresh B w f) : Within B w.heap.size f := fun b hb => ⟨(h.2 b hb).1, (h.2 b hb).2.1⟩

theorem Ty.At.within {w : World} {t : Ty} {v : Value} {f : List Nat} (h : t.At w v f) : Within 0 w.heap.size f := fun b hb => ⟨Nat.zero_le _, h.lt b hb⟩

theorem Within.apart {lo hi lo' hi' : Nat} {f g : List Nat} (h : Within lo hi f) (h' : Within lo' hi' g) (hb : hi ≤ lo' ∨ hi' ≤ lo) : ∀ b ∈ g, b ∉ f := fun b hm hm' => by
  have := h b hm'
  have := h' b hm
  omega

theorem Fresh.only {B : Nat} {w w' : World} {f g : List Nat} (h : Fresh B w g) (hon : Only f w w') : Fresh B w' g :=
  ⟨h.1, fun b hb => ⟨(h.2 b hb).1, Nat.lt_of_lt_of_le (h.2 b hb).2.1 hon.size, fun o => (hon.frozen b o (h.2 b hb).2.1).trans ((h.2 b hb).2.2 o)⟩⟩

end Go.Proofs.Ytolhfcpmhhhjpaa

namespace Go.Proofs.Ytolhfcpmhhhjpaa
open Go.RowKit

theorem Try.infoElem : (Try.prog.info? 25).map (fun i => (i.zero, i.size, i.bytes)) = some (some (.agg #[.int .i64 0, .slice none 0 0]), 2, 32) := by kernel_rfl
theorem Try.underElems : Try.prog.underlying 23 = some (.slice 25) := by kernel_rfl

/-- A row's cells, two by two, read as trees. -/
def AtXs (w : World) : List Ty → List Value → List Nat → Prop
  | [], xs, fp => xs = [] ∧ fp = []
  | t :: ts, xs, fp => ∃ x y r f g, xs = x :: y :: r ∧ fp = f ++ g ∧ t.At w (.agg #[x, y]) f ∧ AtXs w ts r g

theorem AtXs.snoc {w : World} : ∀ {ts : List Ty} {xs : List Value} {fp : List Nat} {t : Ty} {x y : Value} {f : List Nat}, AtXs w ts xs fp → t.At w (.agg #[x, y]) f → AtXs w (ts ++ [t]) (xs ++ [x, y]) (fp ++ f)
  | [], _, _, t, x, y, f, ⟨rfl, rfl⟩, ht => ⟨x, y, [], f, [], rfl, by simp, ht, rfl, rfl⟩
  | _ :: _, _, _, t, x, y, f, ⟨x0, y0, r, f0, g, rfl, rfl, h0, h⟩, ht => ⟨x0, y0, r ++ [x, y], f0, g ++ f, by simp, by simp, h0, AtXs.snoc h ht⟩

theorem AtXs.congr {w w' : World} : ∀ {ts : List Ty} {xs : List Value} {fp : List Nat}, AtXs w ts xs fp → (∀ b ∈ fp, ∀ o, w'.cell? ⟨b, o, none⟩ = w.cell? ⟨b, o, none⟩) → AtXs w' ts xs fp
  | [], _, _, h, _ => h
  | _ :: _, _, _, ⟨x0, y0, r, f0, g, rfl, rfl, h0, h⟩, hk => ⟨x0, y0, r, f0, g, rfl, rfl, h0.congr (fun b hb => hk b (by simp [hb])), AtXs.congr h (fun b hb => hk b (by simp [hb]))⟩

theorem AtXs.lt {w : World} : ∀ {ts : List Ty} {xs : List Value} {fp : List Nat}, AtXs w ts xs fp → ∀ b ∈ fp, b < w.heap.size
  | [], _, _, ⟨_, rfl⟩ => by simp
  | _ :: _, _, _, ⟨x0, y0, r, f0, g, rfl, rfl, h0, h⟩ => fun b hb => by
    rcases List.mem_append.1 hb with hb | hb
    · exact h0.lt b hb
    · exact AtXs.lt h b hb

theorem AtXs.atL {w : World} {b : Nat} : ∀ {ts : List Ty} {xs : List Value} {fp : List Nat} {o : Nat}, AtXs w ts xs fp → (∀ j u, xs[j]? = some u → w.cell? ⟨b, o + j, none⟩ = some u) → Ty.AtL w ts b o fp
  | [], _, _, o, ⟨_, rfl⟩, _ => by simp only [Ty.AtL]
  | _ :: _, _, _, o, ⟨x0, y0, r, f0, g, rfl, rfl, h0, h⟩, hc =>
    ⟨x0, y0, f0, g, by simpa using hc 0 x0 rfl, by simpa using hc 1 y0 rfl, h0, AtXs.atL h (fun j u hj => by
      have := hc (j + 2) u (by simpa using hj)
      rw [show o + 2 + j = o + (j + 2) by omega]
      exact this), rfl⟩

/-- The slice v of the call's own, from block B on, reads as the trees ds. -/
def GrowT (B : Nat) (ds : List Ty) (v : Value) (fp : List Nat) (w : World) : Prop :=
  ∃ xs, w.ownsRow B 25 2 v ds.length xs ∧ AtXs w ds xs fp ∧ Fresh B w fp ∧ ∀ b, v.ownBlock = some b → b ∉ fp

theorem GrowT.zero (B : Nat) (w : World) : GrowT B [] (.slice none 0 0) [] w :=
  ⟨[], World.ownsRow_nil w _ _ _, ⟨rfl, rfl⟩, Fresh.nil _ _, by simp⟩

theorem grown_of_below {w w' : World} (h : Below w.heap.size w w') (row : Option Nat) : w.grownBy w' row := ⟨h.os, h.tape, h.output, h.size, fun k hk _ => h.block k hk⟩

theorem GrowT.below {B : Nat} {ds : List Ty} {v : Value} {fp : List Nat} {w w' : World} (h : GrowT B ds v fp w) (hb : Below w.heap.size w w') : GrowT B ds v fp w' := by
  obtain ⟨xs, ho, ha, hf, hn⟩ := h
  refine ⟨xs, ho.kept (grown_of_below hb none) ?_, ha.congr (fun b hm o => hb.cell (p := ⟨b, o, none⟩) (ha.lt b hm)), hf.below hb, hn⟩
  cases v.ownBlock with
  | none => exact .inl rfl
  | some b => exact .inr (by simp)

theorem GrowT.own {B : Nat} {ds : List Ty} {v : Value} {fp : List Nat} {w : World} (h : GrowT B ds v fp w) : ∃ xs, w.ownsRow B 25 2 v ds.length xs := ⟨_, h.choose_spec.1⟩

theorem GrowT.setCell {B : Nat} {ds : List Ty} {v : Value} {fp : List Nat} {w : World} (h : GrowT B ds v fp w) {p : Addr} (hp : p.block < B) (u : Value) : GrowT B ds v fp (w.setCell p u) := by
  obtain ⟨xs, ho, ha, hf, hn⟩ := h
  have hne : ∀ b ∈ fp, b ≠ p.block := fun b hb e => by have := hf.ge b hb; omega
  exact ⟨xs, ownsRow_setCell_below ho hp u, ha.congr (fun b hm o => cell_setCell_ne w p u b o (hne b hm)), hf.setCell hne u, hn⟩

/-- One more element: the call that made it, the one-element slice of the append, the append. -/
theorem GrowT.step {B : Nat} {ds : List Ty} {v : Value} {fp f : List Nat} {xs : List Value} {w w1 w2 w3 : World} {t : Ty} {x y : Value} {g cap n : Nat}
    (ha : AtXs w1 ds xs fp) (hf : Fresh B w1 fp) (hn : ∀ b, v.ownBlock = some b → b ∉ fp) (hfp : ∀ b ∈ fp, b < w.heap.size) (hvb : ∀ b, v.ownBlock = some b → b < w.heap.size)
    (hB : B ≤ w.heap.size) (ht : t.At w1 (.agg #[x, y]) f) (hft : Fresh w.heap.size w1 f) (h2 : Below w1.heap.size w1 w2) (hg : w2.grownBy w3 v.ownBlock) (h3 : w3.ownsRow B 25 2 (.slice (some ⟨g, 0, none⟩) n cap) n (xs ++ [x, y]))
    (hnn : n = ds.length + 1) (hat : v.ownBlock = some g ∨ g = w2.heap.size) : GrowT B (ds ++ [t]) (.slice (some ⟨g, 0, none⟩) n cap) (fp ++ f) w3 := by
  subst hnn
  have hlt1 : ∀ b ∈ fp ++ f, b < w1.heap.size := fun b hb => by
    rcases List.mem_append.1 hb with hb | hb
    · exact (hf.2 b hb).2.1
    · exact (hft.2 b hb).2.1
  have hne : ∀ b ∈ fp ++ f, some b ≠ v.ownBlock := fun b hb e => by
    rcases List.mem_append.1 hb with hb | hb
    · exact hn b e.symm hb
    · have := hft.ge b hb
      have := hvb b e.symm
      omega
  have hk : ∀ b ∈ fp ++ f, w3.heap[b]? = w1.heap[b]? := fun b hb => by
    rw [hg.block b (Nat.lt_of_lt_of_le (hlt1 b hb) h2.size) (hne b hb), h2.block b (hlt1 b hb)]
  have hc : ∀ b ∈ fp ++ f, ∀ o, w3.cell? ⟨b, o, none⟩ = w1.cell? ⟨b, o, none⟩ := fun b hb o => World.cell?_of_block (w := w1) (a := ⟨b, o, none⟩) (hk b hb)
  have hz : ∀ b ∈ fp ++ f, ∀ o, w3.frozen? ⟨b, o, none⟩ = w1.frozen? ⟨b, o, none⟩ := fun b hb o => World.frozen?_of_block (w := w1) (a := ⟨b, o, none⟩) (hk b hb)
  refine ⟨xs ++ [x, y], by simpa using h3, (ha.snoc ht).congr hc, ⟨List.nodup_append.2 ⟨hf.1, hft.1, fun a ha b hb e => ?_⟩, fun b hb => ?_⟩, fun b hb hm => ?_⟩
  · have := hfp a ha
    have := hft.ge b hb
    omega
  · refine ⟨?_, Nat.lt_of_lt_of_le (hlt1 b hb) (Nat.le_trans h2.size hg.size), fun o => ?_⟩
    · rcases List.mem_append.1 hb with hb | hb
      · exact hf.ge b hb
      · exact Nat.le_trans hB (hft.ge b hb)
    · rw [hz b hb o]
      rcases List.mem_append.1 hb with hb | hb
      · exact (hf.2 b hb).2.2 o
      · exact (hft.2 b hb).2.2 o
  · obtain rfl : g = b := by simpa [Value.ownBlock] using hb
    rcases hat with hat | hat
    · exact hne g hm hat.symm
    · have := hlt1 g hm
      have := h2.size
      omega

theorem GrowT.done {B : Nat} {ds : List Ty} {v : Value} {fp : List Nat} {w : World} (h : GrowT B ds v fp w) (hm : ds.length ≤ maxLen) : ∃ fp', SlAt w ds v fp' ∧ Fresh B w fp' := by
  obtain ⟨xs, ho, ha, hf, hn⟩ := h
  rcases ho.2 with ⟨rfl, h0⟩ | ⟨g, cap, cur, rfl, hb, hg, hc, hmx, hsz, hx⟩
  · exact ⟨[], .inl ⟨List.length_eq_zero_iff.1 h0, rfl, none, 0, rfl⟩, Fresh.nil _ _⟩
  · by_cases h0 : ds.length = 0
    · exact ⟨[], .inl ⟨List.length_eq_zero_iff.1 h0, rfl, _, _, by rw [h0]⟩, Fresh.nil _ _⟩
    · have hcell : ∀ j u, xs[j]? = some u → w.cell? ⟨g, 0 + j, none⟩ = some u := fun j u hj => by
        rw [Nat.zero_add, cell_of_block hg, ← hj, ← hx, List.getElem?_take]
        have : j < xs.length := (List.getElem?_eq_some_iff.1 hj).1
        rw [if_pos (by rw [ho.1] at this; exact this)]
        simp
      refine ⟨g :: fp, .inr ⟨g, 0, cap, fp, rfl, by omega, hc, hm, ha.atL hcell, rfl⟩, List.nodup_cons.2 ⟨hn g rfl, hf.1⟩, fun b hb' => ?_⟩
      rcases List.mem_cons.1 hb' with rfl | hb'
      · exact ⟨hb, lt_of_block hg, fun o => frozen_of_block hg⟩
      · exact hf.2 b hb'

theorem GrowT.shape {B : Nat} {ds : List Ty} {v : Value} {fp : List Nat} {w : World} (h : GrowT B ds v fp w) : ∃ a cap, v = .slice a ds.length cap := by
  obtain ⟨xs, ho, _⟩ := h
  rcases ho.2 with ⟨rfl, h0⟩ | ⟨g, cap, cur, rfl, _⟩
  · exact ⟨none, 0, by rw [h0]⟩
  · exact ⟨_, _, rfl⟩

theorem GrowT.block {B : Nat} {ds : List Ty} {v : Value} {fp : List Nat} {w : World} (h : GrowT B ds v fp w) : (∀ b ∈ fp, b < w.heap.size) ∧ ∀ b, v.ownBlock = some b → b < w.heap.size := by
  obtain ⟨xs, ho, _, hf, _⟩ := h
  exact ⟨fun b hb => (hf.2 b hb).2.1, fun b hb => (ho.lt b hb).2⟩

theorem grow_keep {w2 w3 : World} {row : Option Nat} (hg : w2.grownBy w3 row) {M : Nat} {o : Obj} (h : w2.heap[M]? = some o) (hne : some M ≠ row) : w3.heap[M]? = some o :=
  (hg.block M (lt_of_block h) hne).trans h

theorem own_ne {w : World} {B n M : Nat} {T : TypeId} {v : Value} {xs : List Value} (ho : w.ownsRow B T 2 v n xs) (hM : M < B) : some M ≠ v.ownBlock := fun e => by
  have := (ho.lt M e.symm).1
  omega

/-- The cells of an argument's box and of the result, which nothing writes while a third block is built. -/
theorem boxes_out {w wr : World} {x y x' y' : Value} {T T' : TypeId} {o : Obj} (h : Below (w.heap.size + 1 + 1) (((w.alloc (Obj.cells #[x, y] T)).alloc (Obj.cells #[x', y'] T')).alloc o) wr) :
    wr.cell? ⟨w.heap.size, 0, none⟩ = some x ∧ wr.cell? ⟨w.heap.size, 1, none⟩ = some y ∧ wr.cell? ⟨w.heap.size + 1, 0, none⟩ = some x' ∧ wr.cell? ⟨w.heap.size + 1, 1, none⟩ = some y' ∧ ∀ o, wr.frozen? ⟨w.heap.size + 1, o, none⟩ = false := by
  have hs : (w.alloc (Obj.cells #[x, y] T)).heap.size = w.heap.size + 1 := by simp
  have h1 : wr.heap[w.heap.size + 1]? = some (Obj.cells #[x', y'] T') := by
    rw [h.block (w.heap.size + 1) (by omega), Below.heap_alloc _ _ _ (by simp), ← hs]
    exact alloc_new _ _
  have h0 : wr.heap[w.heap.size]? = some (Obj.cells #[x, y] T) := by
    rw [h.block w.heap.size (by omega), Below.heap_alloc _ _ _ (by simp; omega), Below.heap_alloc _ _ _ (by simp)]
    exact alloc_new _ _
  exact ⟨by rw [cell_of_block h0]; rfl, by rw [cell_of_block h0]; rfl, by rw [cell_of_block h1]; rfl, by rw [cell_of_block h1]; rfl, fun o => frozen_of_block h1⟩

end Go.Proofs.Ytolhfcpmhhhjpaa

namespace Go.Proofs.Ytolhfcpmhhhjpaa
open Go.RowKit

set_option maxHeartbeats 400000 in
theorem l1Any_any (w : World) : Calls Try.prog 100 #[] w fun e w' => e = .returned (.agg #[.int .i64 1, .slice none 0 0]) ∧ Below w.heap.size w w' := by
  go_enter Try.func100, Try.ntmps100
  go_wp2_with fail
  exact bodyPost_ret (v := .agg #[.int .i64 1, .slice none 0 0]) (by simp [results, Try.results100, go_sem]) rfl ⟨rfl, (Below.refl _ _).alloc (Nat.le_refl _) _⟩

def CpC (t : Ty) : Prop := ∀ (v : Value) (fp : List Nat) (w : World), t.At w v fp → t.cnt ≤ 1048576 → Calls Try.prog 101 #[v] w (MadeT w t)

set_option maxRecDepth 100000 in
set_option maxHeartbeats 1600000 in
theorem l1Copy_of (k : Int) (ts : List Ty) (ih : ∀ t ∈ ts, CpC t) : CpC (.mk k ts) := by
  intro v fp w hat hn
  have HIH := hid ih
  clear ih
  obtain ⟨s, rfl, hs⟩ := Ty.at_mk.1 hat
  obtain ⟨a, cap, rfl, hc, hm, hget⟩ := hs.openA
  have HG := hid hget
  have HN := hid (show ts.length + cntL ts ≤ 1048576 by simpa only [Ty.cnt] using hn)
  obtain ⟨i0, hi0, hz0, hz1, hz2⟩ := info_parts (P := Try.prog) (e := 25) Try.infoElem
  clear hget hat hs hn
  go_enter Try.func101, Try.ntmps101
  go_wp2_with fail
  go_loopw [4] (fun i wr => ∃ (j : Nat) (v : Value) (f : List Nat), j ≤ ts.length ∧ i = .int .i64 j ∧ Below (w.heap.size + 1 + 1) (((w.alloc (Obj.cells #[.int .i64 k, .slice a ts.length cap] 25)).alloc (Obj.cells #[.int .i64 0, .slice none 0 0] 25)).alloc (Obj.cells #[.int .i64 k, .slice none 0 0] 25)) wr ∧ wr.heap[w.heap.size + 1 + 1]? = some (.cells #[.int .i64 k, v] 25 (0, 0)) ∧ GrowT (w.heap.size + 1 + 1 + 1) (ts.take j) v f wr)
    (fun i _ => ts.length - (intOf i).toNat)
  case atStart =>
    have hs : ((w.alloc (Obj.cells #[.int .i64 k, .slice a ts.length cap] 25)).alloc (Obj.cells #[.int .i64 0, .slice none 0 0] 25)).heap.size = w.heap.size + 1 + 1 := by simp
    exact ⟨0, .slice none 0 0, [], Nat.zero_le _, rfl, Below.refl _ _, by rw [← hs]; exact alloc_new _ _, GrowT.zero _ _⟩
  case round =>
    obtain ⟨j, v, f, hj, rfl, hb, hO, hG⟩ := hrel
    have hbw : Below w.heap.size w wr := Below.trans ((((Below.refl _ _).alloc (Nat.le_refl _) _).alloc (by simp) _).alloc (by simp; omega) _) (hb.mono (by omega))
    obtain ⟨x0, x1, r0, r1, rz⟩ := boxes_out hb
    have y0 : wr.cell? ⟨w.heap.size + 1 + 1, 0, none⟩ = some (.int .i64 k) := by rw [cell_of_block hO]; rfl
    have y1 : wr.cell? ⟨w.heap.size + 1 + 1, 1, none⟩ = some v := by rw [cell_of_block hO]; rfl
    by_cases hlk : j < ts.length
    · obtain ⟨b, o, k1, n1, a1, cap1, g1, rfl, hblt, c0, c1, hat, hf⟩ := HG.out j hlk
      have d0 := (hbw.cell (p := ⟨b, o + j * 2, none⟩) hblt).trans c0
      have d1 := (hbw.cell (p := ⟨b, o + j * 2 + 1, none⟩) hblt).trans c1
      have hle := cnt_mem (List.getElem_mem hlk)
      have hle2 : ts[j].cnt ≤ 1048576 := by have := HN.out; omega
      have hj0 : (0 : Int) ≤ (j : Int) := by omega
      have hj1 : (j : Int) < (ts.length : Int) := by omega
      have hM : w.heap.size + 1 + 1 < wr.heap.size := lt_of_block hO
      clear c0 c1 hle
      go_wp2_with fail
      have hlen : (ts.take j).length = j := by rw [List.length_take]; omega
      have HLEN := hid hlen
      clear hlen
      have hmx : j + 1 ≤ maxLen := by unfold maxLen; omega
      have hby : (j + 1) * 32 ≤ 140737488355328 := by have := HN.out; omega
      go_region_law (first
        | (refine step_append_lies _ (by rfl) _ _ _ (by rfl) (w.heap.size + 1 + 1 + 1) 25 i0 _ 2 32 Try.underElems hi0 hz0 hz1 hz2 rfl (by omega) v j xs (by rfl) (ho2.alloc _) ⟨w1.heap.size, 0, none⟩ 1 1 [.int .i64 k2, .slice a2 n2 cap2] (by rfl) (by rfl) (World.news_of_block (cs := #[.int .i64 k2, .slice a2 n2 cap2]) (t := 25) (fr := (0, 0)) (heap_alloc_new w1 _)) (by simp [Value.oneCell']) (by omega) hmx hby (by simp; omega) (w1.heap.size + 1) (by simp) ?_; intro g cp w3 hown3 hgrow hat3 hlt3; have hO3 := grow_keep hgrow ((Below.heap_alloc _ _ _ hM1).trans hO1) (own_ne ho2 (by omega)); have z1 := (cell_of_block (o := 1) hO3); have z2 := (frozen_of_block (o := 1) hO3))
        | (go_simp; go_at_call 101; refine (HIH.out _ (List.getElem_mem hlk) _ _ _ (hat.below hbw.drew) hle2).mono ?_; rintro e w1 ⟨v1, f', rfl, hat', hf', hb1⟩; obtain ⟨k2, n2, a2, cap2, rfl⟩ := hat'.agg; have hbd := below_trans (below_drew wr) hb1; have x0' := cell_keep x0 hbd; have x1' := cell_keep x1 hbd; have y1' := cell_keep y1 hbd; have y0' := cell_keep y0 hbd; have d0' := cell_keep d0 hbd; have d1' := cell_keep d1 hbd; obtain ⟨xs, ho1, ha1, hf1, hn1⟩ := hG.below hbd; have ho2 := ho1; rw [HLEN.out] at ho2; have hO1 := (hbd.block _ hM).trans hO; have hM1 := lt_of_block hO1))
      all_goals
        have hG3 := GrowT.step (w2 := w1.alloc (Obj.cells #[.int .i64 k2, .slice a2 n2 cap2] 25)) ha1 hf1 hn1 hG.block.1 hG.block.2 (by omega) hat' hf' ((Below.refl _ _).alloc (Nat.le_refl _) _) hgrow hown3 (by rw [HLEN.out]) (by simpa using hat3)
        have hw3 : Below (w.heap.size + 1 + 1) w1 w3 := ((Below.refl _ _).alloc (by omega) _).grown hgrow (by simp; omega) (fun b hb => by have := (ho2.lt b hb).1; omega)
        have hbb := (hb.trans (hbd.mono (by omega))).trans hw3
        rw [← take_succ hlk] at hG3
        clear hO1 hO ha1 hf1 hn1 hat' hf' hgrow hown3 hat3 hlt3 ho1 ho2 hb hbd hw3 hbw hG z1 z2 x0 x1 y0 y1 x0' x1' y0' y1' d0 d1 d0' d1' r0 r1 rz
        go_wp2_with fail
        refine ⟨⟨j + 1, _, _, by omega, by go_num, hbb.setCell (p := ⟨w.heap.size + 1 + 1, 1, none⟩) (Nat.le_refl _) _, ?_, hG3.setCell (p := ⟨w.heap.size + 1 + 1, 1, none⟩) (by simp) _⟩, by simp [intOf]; omega⟩
        rw [heap_setCell_at hO3]
        rfl
    · obtain ⟨a', cap', rfl⟩ := hG.shape
      obtain ⟨fp', hs', hf'⟩ := hG.done (by unfold maxLen; rw [List.length_take]; omega)
      have hz : (ts.take j) = ts := List.take_of_length_le (by omega)
      rw [hz] at hs' y1
      have hM : w.heap.size + 1 + 1 < wr.heap.size := lt_of_block hO
      have hab := ((Above.refl (w.heap.size + 1 + 1 + 1) wr).setCell (p := ⟨w.heap.size + 1, 0, none⟩) (by simp) (.int .i64 k)).setCell (p := ⟨w.heap.size + 1, 1, none⟩) (by simp) (.slice a' ts.length cap')
      have hbb := (hbw.setCell (p := ⟨w.heap.size + 1, 0, none⟩) (by simp) (.int .i64 k)).setCell (p := ⟨w.heap.size + 1, 1, none⟩) (by simp) (.slice a' ts.length cap')
      have hst := hs'.above hab (fun b hb => hf'.ge b hb)
      have hft := (hf'.above hab (Nat.le_refl _)).mono (B' := w.heap.size) (by omega)
      clear hs' hz hG hO hb
      go_wp2_with fail
      exact bodyPost_ret (v := .agg #[.int .i64 k, .slice a' ts.length cap']) (by simp [results, Try.results101, go_sem, r0, r1]) rfl ⟨_, fp', rfl, Ty.at_mk.2 ⟨_, rfl, hst⟩, hft, hbb⟩

theorem l1Copy_any : ∀ t : Ty, CpC t := Ty.ind l1Copy_of

end Go.Proofs.Ytolhfcpmhhhjpaa

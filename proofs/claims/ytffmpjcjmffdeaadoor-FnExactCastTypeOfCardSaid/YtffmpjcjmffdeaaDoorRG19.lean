/- The program's TermValid and CountNodes: the grammar of terms without casts. Calls that write one block of the caller's: what stays. The program's rewriteKids: a node with its operands rewritten, over any change whose rewriting has a contract. Blocks of terms and of types that share their operands' memory, while they are filled and changed. What the program's check says: results that share memory with what was given, and one block that the fitter may write. CastValid, of the program; terms with casts as the document has them. -/
import Derived.Test.YtffmpjcjmffdeaaDoorRNeW
import Derived.Test.YtffmpjcjmffdeaaDoorRG11
import Derived.Test.YtffmpjcjmffdeaaDoorRPkB
import Derived.Test.YtffmpjcjmffdeaaDoorRG13
namespace Go.Proofs.YtffmpjcjmffdeaaDoor
open Go.RowKit

theorem size_empty (nm : ByteArray) : (nm.size == 0) = nm.toList.isEmpty := by
  by_cases h : nm.size = 0
  · rw [empty_of_size h, Lib.toList_data]; rfl
  · rw [ne_empty h]; simpa using h

theorem kidsM_none {k : Int} (h : ¬ (1 ≤ k ∧ k ≤ 14)) : kidsM k = -1 := by
  unfold kidsM
  rw [if_neg (by omega), if_neg (by omega), if_neg (by omega), if_neg (by omega)]

theorem minus_ne (n : Nat) : ((-1 : Int) == (n : Int)) = false := by
  rw [beq_eq_false_iff_ne]
  omega

/-- Fields of a node that is no cast. -/
theorem fldG_own {k : Int} (h : k ≠ 14) (nm : ByteArray) (num : Int) (ty fr : Ty) (lb : Int) : fldG k nm num ty fr lb = ownM k nm num ty fr lb := by
  have hj : (k == 14) = false := by simpa using h
  unfold fldG ownM
  rw [if_neg h, if_neg h, hj, size_empty]
  cases (if k = 1 ∨ k = 5 then isNm nm else nm.toList.isEmpty) <;> cases (if k = 5 ∨ k = 13 ∨ k = 14 then vld ty else noTy ty) <;> cases noTy fr <;> cases (lb == 0) <;> simp

set_option maxHeartbeats 1000000 in
theorem accepts_any (g : Int) (hg : g = 13 ∨ g = 14) (m n : Int) (d : Nat) (hm1 : m ≤ 1000) (hm2 : -1000 ≤ m) (hn1 : n ≤ 100) (hn : n.toNat = d) (t : Tm) (v : Value) (fp : List Nat) (w : World) (hF : Forms w) (hat : t.At w v fp) :
    Calls Tryd.prog 101 #[.agg #[.int .i64 g, .int .i64 m, .int .i64 n], v] w fun e w' => e = .returned (.bool (decide (0 < cwG g m d t))) ∧ Below w.heap.size w w' := by
  obtain ⟨k, nm, num, k1, n1, a1, c1, k2, n2, a2, c2, lb, n3, a3, c3, rfl⟩ := hat.agg
  have hb0 : Below w.heap.size w ((w.alloc (Obj.cells #[.int .i64 g, .int .i64 m, .int .i64 n] 119)).alloc (Obj.cells #[.int .i64 k, .string nm, .int .i64 num, .int .i64 k1, .slice a1 n1 c1, .int .i64 k2, .slice a2 n2 c2, .int .i64 lb, .slice a3 n3 c3] 35)) := ((Below.refl _ _).alloc (Nat.le_refl _) _).alloc (by simp) _
  have hr := cwG_range (g := g) (m := m) (d := d) (t := t)
  have HC := hid (count_any g hg d t _ _ m n _ hm1 hm2 hn1 hn (hF.below hb0) (hat.below hb0))
  have HB := hid hb0
  generalize cwG g m d t = c at *
  clear hn hb0 hat hF hg
  go_enter Tryd.func101, Tryd.ntmps101
  go_wp2_with fail
  refine HC.out.mono ?_
  rintro e w1 ⟨rfl, hb1⟩
  go_wp2_with fail
  go_ret
  exact ⟨rfl, HB.out.trans (hb1.mono HB.out.size)⟩

/-! A node of a plain term, by the forms. -/

end Go.Proofs.YtffmpjcjmffdeaaDoor

namespace Go.Proofs.YtffmpjcjmffdeaaDoor
open Go.RowKit

/-- From w to w' only new blocks and the block U have been written. -/
def Bx (U : Nat) (w w' : World) : Prop := w.grownBy w' (some U)

theorem Bx.refl (U : Nat) (w : World) : Bx U w w := World.grownBy.refl _ _
theorem Bx.of_below {U : Nat} {w w' : World} (h : Below w.heap.size w w') : Bx U w w' := grown_of_below h _
theorem Bx.size {U : Nat} {w w' : World} (h : Bx U w w') : w.heap.size ≤ w'.heap.size := World.grownBy.size h

theorem Bx.trans {U : Nat} {a b c : World} (h : Bx U a b) (k : Bx U b c) : Bx U a c :=
  ⟨k.os.trans h.os, k.tape.trans h.tape, k.output.trans h.output, Nat.le_trans h.size k.size, fun i hi hn => (k.block i (Nat.lt_of_lt_of_le hi h.size) hn).trans (h.block i hi hn)⟩

theorem Bx.trans_below {U B : Nat} {a b c : World} (h : Bx U a b) (k : Below B b c) (hB : a.heap.size ≤ B) : Bx U a c :=
  ⟨k.os.trans h.os, k.tape.trans h.tape, k.output.trans h.output, Nat.le_trans h.size k.size, fun i hi hn => (k.block i (by omega)).trans (h.block i hi hn)⟩

theorem Bx.setCell {U : Nat} {a b : World} (h : Bx U a b) {p : Addr} (hp : a.heap.size ≤ p.block) (u : Value) : Bx U a (b.setCell p u) :=
  h.trans_below ((Below.refl a.heap.size b).setCell hp u) (Nat.le_refl _)

theorem Bx.put {U : Nat} {a b : World} (h : Bx U a b) {M o : Nat} {vs : List Value} (hp : a.heap.size ≤ M) : Bx U a (Go.Proofs.YtffmpjcjmffdeaaDoor.put b M o vs) :=
  h.trans_below (below_put (Below.refl a.heap.size b) hp) (Nat.le_refl _)

theorem Bx.alloc {U : Nat} {a b : World} (h : Bx U a b) (o : Obj) : Bx U a (b.alloc o) := h.trans (Bx.of_below ((Below.refl _ _).alloc (Nat.le_refl _) _))

theorem Bx.block' {U : Nat} {w w' : World} (h : Bx U w w') {M : Nat} {o : Obj} (hM : w.heap[M]? = some o) (hn : M ≠ U) : w'.heap[M]? = some o :=
  (h.block M (lt_of_block hM) (fun e => hn (Option.some.inj e))).trans hM

theorem Bx.cell {U : Nat} {w w' : World} (h : Bx U w w') {b o : Nat} {u : Value} (hc : w.cell? ⟨b, o, none⟩ = some u) (hn : b ≠ U) : w'.cell? ⟨b, o, none⟩ = some u :=
  (World.grownBy.cell_far h ⟨b, o, none⟩ (World.block_lt_of_cell? _ _ hc) (fun e => hn (Option.some.inj e))).trans hc

theorem Bx.frozen {U : Nat} {w w' : World} (h : Bx U w w') {b o : Nat} {c : Bool} (hc : w.frozen? ⟨b, o, none⟩ = c) (hlt : b < w.heap.size) (hn : b ≠ U) : w'.frozen? ⟨b, o, none⟩ = c :=
  (World.grownBy.frozen_far h ⟨b, o, none⟩ hlt (fun e => hn (Option.some.inj e))).trans hc

theorem Bx.ty {U : Nat} {w w' : World} (h : Bx U w w') {t : Ty} {x : Value} {fp : List Nat} (ht : t.At w x fp) (hn : ∀ b ∈ fp, b ≠ U) : t.At w' x fp :=
  ht.congr fun b hb o => World.grownBy.cell_far h ⟨b, o, none⟩ (ht.lt b hb) (fun e => hn b hb (Option.some.inj e))

theorem Bx.fresh {U B : Nat} {w w' : World} (h : Bx U w w') {f : List Nat} (hf : Fresh B w f) (hU : U < B) : Fresh B w' f :=
  ⟨hf.1, fun b hb => ⟨(hf.2 b hb).1, Nat.lt_of_lt_of_le (hf.2 b hb).2.1 h.size, fun o => h.frozen ((hf.2 b hb).2.2 o) (hf.2 b hb).2.1 (by have := (hf.2 b hb).1; omega)⟩⟩

/-- Old blocks below B are as they were, if U lies from B on. -/
theorem Bx.below {U B : Nat} {w w' : World} (h : Bx U w w') (hB : B ≤ w.heap.size) (hU : B ≤ U) : Below B w w' :=
  ⟨h.os, h.tape, h.output, h.size, fun k hk => World.grownBy.block h k (by omega) (fun e => by have := Option.some.inj e; omega)⟩

theorem BuiltM.bx {U M : Nat} {T : TypeId} {n : Nat} {ds : List Tm} {fp : List Nat} {w w1 : World} (h : BuiltM M T n ds fp w) (hb : Bx U w w1) (hU : U < M) : BuiltM M T n ds fp w1 := by
  obtain ⟨C, hM, hC, hn, hl, hf⟩ := h
  have hMl := lt_of_block hM
  refine ⟨C, hb.block' hM (by omega), hC, hn, hl.congr (fun o => World.grownBy.cell_far hb ⟨M, o, none⟩ hMl (fun e => by have e' : M = U := Option.some.inj e; omega)) (fun b hm o => World.grownBy.cell_far hb ⟨b, o, none⟩ (hl.lt b hm) (fun e => by have e' : b = U := Option.some.inj e; have := hf.ge b hm; omega)), hb.fresh hf (by omega)⟩

theorem size_put {b : Nat} : ∀ {vs : List Value} {w : World} {o : Nat}, (put w b o vs).heap.size = w.heap.size
  | [], _, _ => rfl
  | v :: vs, w, o => by
    rw [put, size_put, size_setCell]

theorem heap_put_ne {M : Nat} : ∀ {vs : List Value} {w : World} {o b : Nat}, b ≠ M → (put w M o vs).heap[b]? = w.heap[b]?
  | [], _, _, _, _ => rfl
  | v :: vs, w, o, b, h => by
    rw [put, heap_put_ne h]
    exact Below.heap_setCell w _ v b h

theorem Ty.At.putne {w : World} {t : Ty} {v : Value} {fp : List Nat} {M o : Nat} {vs : List Value} (h : t.At w v fp) (hn : ∀ b ∈ fp, b ≠ M) : t.At (put w M o vs) v fp :=
  h.congr fun b hb o => World.cell?_of_block (w := w) (a := ⟨b, o, none⟩) (heap_put_ne (hn b hb))

theorem Fresh.putne {B : Nat} {M : Nat} : ∀ {vs : List Value} {w : World} {o : Nat} {fp : List Nat}, Fresh B w fp → (∀ b ∈ fp, b ≠ M) → Fresh B (put w M o vs) fp
  | [], _, _, _, h, _ => h
  | v :: vs, w, o, fp, h, hn => by
    rw [put]
    exact Fresh.putne (h.setCell (a := ⟨M, o, none⟩) hn v) hn

end Go.Proofs.YtffmpjcjmffdeaaDoor

namespace Go.Proofs.YtffmpjcjmffdeaaDoor
open Go.RowKit

/-- From w to w' only new blocks and, if U names one, that block have been written. -/
def Bo (U : Option Nat) (w w' : World) : Prop := w.grownBy w' U
/-- U names no block from S on. -/
def UL (U : Option Nat) (S : Nat) : Prop := ∀ u, U = some u → u < S
theorem UL.mono {U : Option Nat} {S S' : Nat} (h : UL U S) (hS : S ≤ S') : UL U S' := fun u e => Nat.lt_of_lt_of_le (h u e) hS
theorem UL.ne {U : Option Nat} {S b : Nat} (h : UL U S) (hb : S ≤ b) : some b ≠ U := fun e => by have := h b e.symm; omega

theorem Bo.of_below {U : Option Nat} {w w' : World} (h : Below w.heap.size w w') : Bo U w w' := grown_of_below h _
theorem Bo.size {U : Option Nat} {w w' : World} (h : Bo U w w') : w.heap.size ≤ w'.heap.size := World.grownBy.size h
theorem Bo.trans {U : Option Nat} {a b c : World} (h : Bo U a b) (k : Bo U b c) : Bo U a c :=
  ⟨k.os.trans h.os, k.tape.trans h.tape, k.output.trans h.output, Nat.le_trans h.size k.size, fun i hi hn => (k.block i (Nat.lt_of_lt_of_le hi h.size) hn).trans (h.block i hi hn)⟩
theorem Bo.trans_below {U : Option Nat} {B : Nat} {a b c : World} (h : Bo U a b) (k : Below B b c) (hB : a.heap.size ≤ B) : Bo U a c :=
  ⟨k.os.trans h.os, k.tape.trans h.tape, k.output.trans h.output, Nat.le_trans h.size k.size, fun i hi hn => (k.block i (by omega)).trans (h.block i hi hn)⟩
theorem Bo.put {U : Option Nat} {a b : World} (h : Bo U a b) {M o : Nat} {vs : List Value} (hp : a.heap.size ≤ M) : Bo U a (Go.Proofs.YtffmpjcjmffdeaaDoor.put b M o vs) :=
  h.trans_below (below_put (Below.refl a.heap.size b) hp) (Nat.le_refl _)
theorem Bo.block' {U : Option Nat} {w w' : World} (h : Bo U w w') {M : Nat} {o : Obj} (hM : w.heap[M]? = some o) (hn : some M ≠ U) : w'.heap[M]? = some o :=
  (h.block M (lt_of_block hM) hn).trans hM
theorem Bo.cell {U : Option Nat} {w w' : World} (h : Bo U w w') {b o : Nat} {u : Value} (hc : w.cell? ⟨b, o, none⟩ = some u) (hn : some b ≠ U) : w'.cell? ⟨b, o, none⟩ = some u :=
  (World.grownBy.cell_far h ⟨b, o, none⟩ (World.block_lt_of_cell? _ _ hc) hn).trans hc
theorem Bo.frozen {U : Option Nat} {w w' : World} (h : Bo U w w') {b o : Nat} {c : Bool} (hc : w.frozen? ⟨b, o, none⟩ = c) (hlt : b < w.heap.size) (hn : some b ≠ U) : w'.frozen? ⟨b, o, none⟩ = c :=
  (World.grownBy.frozen_far h ⟨b, o, none⟩ hlt hn).trans hc
theorem Bo.tm {U : Option Nat} {w w' : World} (h : Bo U w w') {t : Tm} {x : Value} {fp : List Nat} (ht : t.At w x fp) (hn : ∀ b ∈ fp, some b ≠ U) : t.At w' x fp :=
  ht.congr fun b hb o => World.grownBy.cell_far h ⟨b, o, none⟩ (ht.lt b hb) (hn b hb)
theorem Bo.ty {U : Option Nat} {w w' : World} (h : Bo U w w') {t : Ty} {x : Value} {fp : List Nat} (ht : t.At w x fp) (hn : ∀ b ∈ fp, some b ≠ U) : t.At w' x fp :=
  ht.congr fun b hb o => World.grownBy.cell_far h ⟨b, o, none⟩ (ht.lt b hb) (hn b hb)
theorem Bo.fresh {U : Option Nat} {B : Nat} {w w' : World} (h : Bo U w w') {f : List Nat} (hf : Fresh B w f) (hU : UL U B) : Fresh B w' f :=
  ⟨hf.1, fun b hb => ⟨(hf.2 b hb).1, Nat.lt_of_lt_of_le (hf.2 b hb).2.1 h.size, fun o => h.frozen ((hf.2 b hb).2.2 o) (hf.2 b hb).2.1 (hU.ne (hf.2 b hb).1)⟩⟩
theorem Bo.below {w w' : World} (h : Bo none w w') : Below w.heap.size w w' :=
  ⟨h.os, h.tape, h.output, h.size, fun k hk => World.grownBy.block h k hk (by simp)⟩

end Go.Proofs.YtffmpjcjmffdeaaDoor

namespace Go.Proofs.YtffmpjcjmffdeaaDoor
open Go.RowKit

/-- A block of n terms, of which the first have been laid; none of them reads the block itself. -/
def LaidM (M : Nat) (T : TypeId) (n : Nat) (ds : List Tm) (fp : List Nat) (w : World) : Prop :=
  ∃ C, w.heap[M]? = some (.cells C T (0, 0)) ∧ C.size = n * 9 ∧ ds.length ≤ n ∧ Tm.AtL w ds M 0 fp ∧ M ∉ fp

/-- A block of n types, likewise. -/
def LaidT (M : Nat) (T : TypeId) (n : Nat) (ds : List Ty) (fp : List Nat) (w : World) : Prop :=
  ∃ C, w.heap[M]? = some (.cells C T (0, 0)) ∧ C.size = n * 2 ∧ ds.length ≤ n ∧ Ty.AtL w ds M 0 fp ∧ M ∉ fp

theorem LaidM.zero {M : Nat} {T : TypeId} {n : Nat} {w : World} {C : Array Value} (h : w.heap[M]? = some (.cells C T (0, 0))) (hC : C.size = n * 9) : LaidM M T n [] [] w :=
  ⟨C, h, hC, Nat.zero_le _, by simp only [Tm.AtL], by simp⟩
theorem LaidT.zero {M : Nat} {T : TypeId} {n : Nat} {w : World} {C : Array Value} (h : w.heap[M]? = some (.cells C T (0, 0))) (hC : C.size = n * 2) : LaidT M T n [] [] w :=
  ⟨C, h, hC, Nat.zero_le _, by simp only [Ty.AtL], by simp⟩

/-- In a world with the same blocks both read the same. -/
theorem LaidM.same {M : Nat} {T : TypeId} {n : Nat} {ds : List Tm} {fp : List Nat} {w w1 : World} (h : LaidM M T n ds fp w) (hM : w1.heap[M]? = w.heap[M]?) (hf : ∀ b ∈ fp, w1.heap[b]? = w.heap[b]?) : LaidM M T n ds fp w1 := by
  obtain ⟨C, hB, hC, hn, hl, hm⟩ := h
  exact ⟨C, hM.trans hB, hC, hn, hl.congr (fun o => World.cell?_of_block (w := w) (a := ⟨M, o, none⟩) hM) (fun b hb o => World.cell?_of_block (w := w) (a := ⟨b, o, none⟩) (hf b hb)), hm⟩
theorem LaidT.same {M : Nat} {T : TypeId} {n : Nat} {ds : List Ty} {fp : List Nat} {w w1 : World} (h : LaidT M T n ds fp w) (hM : w1.heap[M]? = w.heap[M]?) (hf : ∀ b ∈ fp, w1.heap[b]? = w.heap[b]?) : LaidT M T n ds fp w1 := by
  obtain ⟨C, hB, hC, hn, hl, hm⟩ := h
  exact ⟨C, hM.trans hB, hC, hn, hl.congr (fun o => World.cell?_of_block (w := w) (a := ⟨M, o, none⟩) hM) (fun b hb o => World.cell?_of_block (w := w) (a := ⟨b, o, none⟩) (hf b hb)), hm⟩

theorem LaidM.lt {M : Nat} {T : TypeId} {n : Nat} {ds : List Tm} {fp : List Nat} {w : World} (h : LaidM M T n ds fp w) : M < w.heap.size ∧ ∀ b ∈ fp, b < w.heap.size := by
  obtain ⟨C, hB, hC, hn, hl, hm⟩ := h
  exact ⟨lt_of_block hB, hl.lt⟩
theorem LaidT.lt {M : Nat} {T : TypeId} {n : Nat} {ds : List Ty} {fp : List Nat} {w : World} (h : LaidT M T n ds fp w) : M < w.heap.size ∧ ∀ b ∈ fp, b < w.heap.size := by
  obtain ⟨C, hB, hC, hn, hl, hm⟩ := h
  exact ⟨lt_of_block hB, hl.lt⟩

/-- Behind a call that writes new blocks, and U's. -/
theorem LaidM.bo {U : Option Nat} {M : Nat} {T : TypeId} {n : Nat} {ds : List Tm} {fp : List Nat} {w w1 : World} (h : LaidM M T n ds fp w) (hb : Bo U w w1) (hM : some M ≠ U) (hf : ∀ b ∈ fp, some b ≠ U) : LaidM M T n ds fp w1 :=
  h.same (World.grownBy.block hb M h.lt.1 hM) (fun b hm => World.grownBy.block hb b (h.lt.2 b hm) (hf b hm))
theorem LaidT.bo {U : Option Nat} {M : Nat} {T : TypeId} {n : Nat} {ds : List Ty} {fp : List Nat} {w w1 : World} (h : LaidT M T n ds fp w) (hb : Bo U w w1) (hM : some M ≠ U) (hf : ∀ b ∈ fp, some b ≠ U) : LaidT M T n ds fp w1 :=
  h.same (World.grownBy.block hb M h.lt.1 hM) (fun b hm => World.grownBy.block hb b (h.lt.2 b hm) (hf b hm))
theorem LaidM.below {M : Nat} {T : TypeId} {n : Nat} {ds : List Tm} {fp : List Nat} {w w1 : World} (h : LaidM M T n ds fp w) (hb : Below w.heap.size w w1) : LaidM M T n ds fp w1 :=
  h.same (hb.block M h.lt.1) (fun b hm => hb.block b (h.lt.2 b hm))
theorem LaidT.below {M : Nat} {T : TypeId} {n : Nat} {ds : List Ty} {fp : List Nat} {w w1 : World} (h : LaidT M T n ds fp w) (hb : Below w.heap.size w w1) : LaidT M T n ds fp w1 :=
  h.same (hb.block M h.lt.1) (fun b hm => hb.block b (h.lt.2 b hm))

/-- Stores into another block. -/
theorem LaidM.putne {M P o : Nat} {vs : List Value} {T : TypeId} {n : Nat} {ds : List Tm} {fp : List Nat} {w : World} (h : LaidM M T n ds fp w) (hM : M ≠ P) (hf : P ∉ fp) : LaidM M T n ds fp (put w P o vs) :=
  h.same (heap_put_ne hM) (fun _ hb => heap_put_ne (fun e => hf (e ▸ hb)))
theorem LaidT.putne {M P o : Nat} {vs : List Value} {T : TypeId} {n : Nat} {ds : List Ty} {fp : List Nat} {w : World} (h : LaidT M T n ds fp w) (hM : M ≠ P) (hf : P ∉ fp) : LaidT M T n ds fp (put w P o vs) :=
  h.same (heap_put_ne hM) (fun _ hb => heap_put_ne (fun e => hf (e ▸ hb)))

theorem put_out {P : Nat} {w : World} {o : Nat} {vs : List Value} {C : Array Value} {T : TypeId} (hB : w.heap[P]? = some (.cells C T (0, 0))) {i : Nat} (h : i < o ∨ o + vs.length ≤ i) : (put w P o vs).cell? ⟨P, i, none⟩ = w.cell? ⟨P, i, none⟩ := by
  rw [cell_of_block (heap_put hB), cell_of_block hB, putA_out _ _ _ _ h]

theorem put_in {P : Nat} {w : World} {o : Nat} {vs : List Value} {C : Array Value} {T : TypeId} (hB : w.heap[P]? = some (.cells C T (0, 0))) {i : Nat} (h : i < vs.length) (hs : o + vs.length ≤ C.size) : (put w P o vs).cell? ⟨P, o + i, none⟩ = vs[i]? := by
  rw [cell_of_block (heap_put hB), putA_in _ _ _ _ h hs]

/-- One more term. -/
theorem LaidM.push {M : Nat} {T : TypeId} {n k : Nat} {ds : List Tm} {t : Tm} {vs : List Value} {f fp : List Nat} {w : World} (h : LaidM M T n ds fp w) (hk : ds.length = k) (hlt : k < n) (ht : t.At w (.agg vs.toArray) f) (hf : M ∉ f) :
    LaidM M T n (ds ++ [t]) (fp ++ f) (put w M (k * 9) vs) := by
  subst hk
  obtain ⟨C, hB, hC, hn, hl, hm⟩ := h
  have h9 : vs.length = 9 := by simpa using Tm.size9 ht
  have keep : ∀ b, b ≠ M → ∀ o, (put w M (ds.length * 9) vs).cell? ⟨b, o, none⟩ = w.cell? ⟨b, o, none⟩ := fun b hb o => World.cell?_of_block (w := w) (a := ⟨b, o, none⟩) (heap_put_ne hb)
  refine ⟨_, heap_put hB, by rw [putA_size]; exact hC, by simp; omega, Tm.AtL.snoc (cs := vs.toArray) (hl.congrR (fun o' _ h' => put_out hB (by omega)) (fun b hb o => keep b (fun e => hm (e ▸ hb)) o)) (fun i hi => ?_) (ht.congr fun b hb o => keep b (fun e => hf (e ▸ hb)) o), by simp [hm, hf]⟩
  rw [Nat.zero_add, put_in hB (by omega) (by omega)]
  simp

/-- One more type. -/
theorem LaidT.push {M : Nat} {T : TypeId} {n k : Nat} {ds : List Ty} {t : Ty} {x y : Value} {f fp : List Nat} {w : World} (h : LaidT M T n ds fp w) (hk : ds.length = k) (hlt : k < n) (ht : t.At w (.agg #[x, y]) f) (hf : M ∉ f) :
    LaidT M T n (ds ++ [t]) (fp ++ f) (put w M (k * 2) [x, y]) := by
  subst hk
  obtain ⟨C, hB, hC, hn, hl, hm⟩ := h
  have keep : ∀ b, b ≠ M → ∀ o, (put w M (ds.length * 2) [x, y]).cell? ⟨b, o, none⟩ = w.cell? ⟨b, o, none⟩ := fun b hb o => World.cell?_of_block (w := w) (a := ⟨b, o, none⟩) (heap_put_ne hb)
  refine ⟨_, heap_put hB, by rw [putA_size]; exact hC, by simp; omega, Ty.AtL.snoc (v0 := x) (v1 := y) (hl.congrR (fun o' _ h' => put_out hB (by omega)) (fun b hb o => keep b (fun e => hm (e ▸ hb)) o)) ?_ ?_ (ht.congr fun b hb o => keep b (fun e => hf (e ▸ hb)) o), by simp [hm, hf]⟩
  · have := put_in (vs := [x, y]) (o := ds.length * 2) (i := 0) hB (by simp) (by simp; omega)
    rw [Nat.zero_add]; simpa using this
  · have := put_in (vs := [x, y]) (o := ds.length * 2) (i := 1) hB (by simp) (by simp; omega)
    rw [Nat.zero_add]; simpa using this

/-- Another term in one's place. -/
theorem Tm.AtL.repl {w w' : World} {M : Nat} {t t' : Tm} {cs' : Array Value} {f : List Nat} (ht : t'.At w' (.agg cs') f) : ∀ {ls : List Tm} {bs : List Tm} {o : Nat} {fp : List Nat}, Tm.AtL w (ls ++ t :: bs) M o fp →
    (∀ i, i < o + ls.length * 9 ∨ o + ls.length * 9 + 9 ≤ i → w'.cell? ⟨M, i, none⟩ = w.cell? ⟨M, i, none⟩) → (∀ i, i < 9 → w'.cell? ⟨M, o + ls.length * 9 + i, none⟩ = cs'[i]?) → (∀ b ∈ fp, ∀ i, w'.cell? ⟨b, i, none⟩ = w.cell? ⟨b, i, none⟩) →
    ∃ fp', Tm.AtL w' (ls ++ t' :: bs) M o fp' ∧ ∀ b ∈ fp', b ∈ fp ∨ b ∈ f
  | [], bs, o, fp, h, hc, hi, hk => by
    simp only [List.nil_append, Tm.AtL] at h ⊢
    obtain ⟨cs, f1, f2, hcs, ha, hl, rfl⟩ := h
    simp only [List.length_nil, Nat.zero_mul, Nat.add_zero] at hc hi
    exact ⟨f ++ f2, ⟨cs', f, f2, hi, ht, hl.congrR (fun o' h1 _ => hc o' (.inr h1)) (fun b hb => hk b (by simp [hb])), rfl⟩, fun b hb => by
      rcases List.mem_append.1 hb with hb | hb
      · exact .inr hb
      · exact .inl (by simp [hb])⟩
  | a :: ls, bs, o, fp, h, hc, hi, hk => by
    simp only [List.cons_append, Tm.AtL] at h ⊢
    obtain ⟨cs, f1, f2, hcs, ha, hl, rfl⟩ := h
    simp only [List.length_cons] at hc hi
    obtain ⟨fp', hl', hsub⟩ := Tm.AtL.repl ht hl (fun i hi' => hc i (by omega)) (fun i hi' => by rw [show o + 9 + ls.length * 9 + i = o + (ls.length + 1) * 9 + i by omega]; exact hi i hi') (fun b hb => hk b (by simp [hb]))
    exact ⟨f1 ++ fp', ⟨cs, f1, fp', fun i hi' => (hc _ (by omega)).trans (hcs i hi'), ha.congr (fun b hb => hk b (by simp [hb])), hl', rfl⟩, fun b hb => by
      rcases List.mem_append.1 hb with hb | hb
      · exact .inl (by simp [hb])
      · rcases hsub b hb with h | h
        · exact .inl (by simp [h])
        · exact .inr h⟩

theorem LaidM.repl {M : Nat} {T : TypeId} {n k : Nat} {ls bs : List Tm} {t t' : Tm} {vs : List Value} {f fp : List Nat} {w : World} (h : LaidM M T n (ls ++ t :: bs) fp w) (hk : ls.length = k) (ht : t'.At w (.agg vs.toArray) f) (hf : M ∉ f) :
    ∃ fp', LaidM M T n (ls ++ t' :: bs) fp' (put w M (k * 9) vs) ∧ ∀ b ∈ fp', b ∈ fp ∨ b ∈ f := by
  subst hk
  obtain ⟨C, hB, hC, hn, hl, hm⟩ := h
  have h9 : vs.length = 9 := by simpa using Tm.size9 ht
  simp only [List.length_append, List.length_cons] at hn
  have keep : ∀ b, b ≠ M → ∀ o, (put w M (ls.length * 9) vs).cell? ⟨b, o, none⟩ = w.cell? ⟨b, o, none⟩ := fun b hb o => World.cell?_of_block (w := w) (a := ⟨b, o, none⟩) (heap_put_ne hb)
  obtain ⟨fp', hl', hsub⟩ := Tm.AtL.repl (w' := put w M (ls.length * 9) vs) (ht.congr fun b hb o => keep b (fun e => hf (e ▸ hb)) o) hl
    (fun i hi => put_out hB (by omega)) (fun i hi => by rw [Nat.zero_add, put_in hB (by omega) (by omega)]; simp) (fun b hb o => keep b (fun e => hm (e ▸ hb)) o)
  exact ⟨fp', ⟨_, heap_put hB, by rw [putA_size]; exact hC, by simp; omega, hl', fun h => by rcases hsub M h with h | h; exact hm h; exact hf h⟩, hsub⟩

/-- The slice. -/
theorem LaidM.sm {M : Nat} {T : TypeId} {n : Nat} {ds : List Tm} {fp : List Nat} {w : World} (h : LaidM M T n ds fp w) (hm : n ≤ maxLen) : ∃ fp', SmAt w ds (.slice (some ⟨M, 0, none⟩) ds.length n) fp' ∧ ∀ b ∈ fp', b = M ∨ b ∈ fp := by
  obtain ⟨C, hB, hC, hn, hl, _⟩ := h
  by_cases h0 : ds.length = 0
  · exact ⟨[], .inl ⟨List.length_eq_zero_iff.1 h0, rfl, _, _, by rw [h0]⟩, fun b hb => by cases hb⟩
  · exact ⟨M :: fp, .inr ⟨M, 0, _, fp, rfl, by omega, hn, by omega, hl, rfl⟩, fun b hb => List.mem_cons.1 hb⟩
theorem LaidT.sl {M : Nat} {T : TypeId} {n : Nat} {ds : List Ty} {fp : List Nat} {w : World} (h : LaidT M T n ds fp w) (hm : n ≤ maxLen) : ∃ fp', SlAt w ds (.slice (some ⟨M, 0, none⟩) ds.length n) fp' ∧ ∀ b ∈ fp', b = M ∨ b ∈ fp := by
  obtain ⟨C, hB, hC, hn, hl, _⟩ := h
  by_cases h0 : ds.length = 0
  · exact ⟨[], .inl ⟨List.length_eq_zero_iff.1 h0, rfl, _, _, by rw [h0]⟩, fun b hb => by cases hb⟩
  · exact ⟨M :: fp, .inr ⟨M, 0, _, fp, rfl, by omega, hn, by omega, hl, rfl⟩, fun b hb => List.mem_cons.1 hb⟩
end Go.Proofs.YtffmpjcjmffdeaaDoor

namespace Go.Proofs.YtffmpjcjmffdeaaDoor
open Go.RowKit

/-- A block that a reading may rest on: not the fitter's own and, where that matters, not frozen. -/
def Gd (Z : Bool) (U : Option Nat) (w : World) (b : Nat) : Prop := (Z = true → ∀ o, w.frozen? ⟨b, o, none⟩ = false) ∧ some b ≠ U

theorem Gd.bo {Z : Bool} {U : Option Nat} {w w' : World} {b : Nat} (h : Gd Z U w b) (hlt : b < w.heap.size) (hb : Bo U w w') : Gd Z U w' b :=
  ⟨fun hz o => hb.frozen (h.1 hz o) hlt h.2, h.2⟩

/-- Blocks that were given or made, all of which readings may rest on. -/
def Src (Z : Bool) (U : Option Nat) (A : List Nat) (w w' : World) (f : List Nat) : Prop := ∀ b ∈ f, (b ∈ A ∨ w.heap.size ≤ b) ∧ Gd Z U w' b

theorem Src.nil (Z : Bool) (U : Option Nat) (A : List Nat) (w w' : World) : Src Z U A w w' [] := fun b hb => by cases hb
theorem Src.append {Z : Bool} {U : Option Nat} {A f g : List Nat} {w w' : World} (h : Src Z U A w w' f) (k : Src Z U A w w' g) : Src Z U A w w' (f ++ g) := fun b hb => by
  rcases List.mem_append.1 hb with hb | hb
  · exact h b hb
  · exact k b hb
theorem Src.sub {Z : Bool} {U : Option Nat} {A f g : List Nat} {w w' : World} (h : Src Z U A w w' f) (k : ∀ b ∈ g, b ∈ f) : Src Z U A w w' g := fun b hb => h b (k b hb)
theorem Src.later {Z : Bool} {U : Option Nat} {A f : List Nat} {w w1 w2 : World} (h : Src Z U A w w1 f) (hlt : ∀ b ∈ f, b < w1.heap.size) (hb : Bo U w1 w2) : Src Z U A w w2 f :=
  fun b hm => ⟨(h b hm).1, (h b hm).2.bo (hlt b hm) hb⟩
/-- What a call made of what had such blocks. -/
theorem Src.from {Z : Bool} {U : Option Nat} {A A' f : List Nat} {w w1 w2 : World} (h : Src Z U A' w1 w2 f) (hA : ∀ b ∈ A', b ∈ A ∨ w.heap.size ≤ b) (hs : w.heap.size ≤ w1.heap.size) : Src Z U A w w2 f := fun b hm =>
  ⟨by rcases (h b hm).1 with h | h
      · exact hA b h
      · exact .inr (Nat.le_trans hs h), (h b hm).2⟩
theorem Src.of {Z : Bool} {U : Option Nat} {A A' f : List Nat} {w w1 w2 : World} (h : SrcB A' w1 w2 f) (hA : ∀ b ∈ A', (b ∈ A ∨ w.heap.size ≤ b) ∧ Gd Z U w1 b) (hlt : ∀ b ∈ A', b < w1.heap.size) (hs : w.heap.size ≤ w1.heap.size) (hU : UL U w1.heap.size) (hb : Below w1.heap.size w1 w2) : Src Z U A w w2 f := fun b hm => by
  rcases h b hm with h | h
  · exact ⟨(hA b h).1, (hA b h).2.bo (hlt b h) (Bo.of_below hb)⟩
  · exact ⟨.inr (Nat.le_trans hs h.1), fun _ => h.2, hU.ne h.1⟩
/-- Stores into a block that no reading rests on. -/
theorem Src.put {Z : Bool} {U : Option Nat} {A f : List Nat} {w w1 : World} {P o : Nat} {vs : List Value} (h : Src Z U A w w1 f) (hP : ∀ b ∈ f, b ≠ P) : Src Z U A w (put w1 P o vs) f := fun b hm =>
  ⟨(h b hm).1, fun hz o' => (World.frozen?_of_block (w := w1) (a := ⟨b, o', none⟩) (heap_put_ne (hP b hm))).trans ((h b hm).2.1 hz o'), (h b hm).2.2⟩

theorem Tm.At.putne {w : World} {t : Tm} {v : Value} {fp : List Nat} {M o : Nat} {vs : List Value} (h : t.At w v fp) (hn : ∀ b ∈ fp, b ≠ M) : t.At (put w M o vs) v fp :=
  h.congr fun b hb i => World.cell?_of_block (w := w) (a := ⟨b, i, none⟩) (heap_put_ne (hn b hb))

theorem ScAt.bo {U : Option Nat} {w w' : World} : ∀ {xs : List Bd} {v : Value} {fp : List Nat}, ScAt w xs v fp → Bo U w w' → (∀ b ∈ fp, some b ≠ U) → ScAt w' xs v fp
  | [], _, _, h, _, _ => h
  | _ :: _, _, _, ⟨b, k, n, a, c, o, f, g, hv, hb, hn, ht, hs, hr, hf⟩, h, hU => by
    subst hf
    exact ⟨b, k, n, a, c, o, f, g, hv, h.block' hb (hU b (by simp)), hn, h.ty ht (fun x hx => hU x (by simp [hx])), ScAt.bo hs h (fun x hx => hU x (by simp [hx])), hr, rfl⟩

theorem ScAt.putne {M o : Nat} {vs : List Value} {w : World} : ∀ {xs : List Bd} {v : Value} {fp : List Nat}, ScAt w xs v fp → (∀ b ∈ fp, b ≠ M) → ScAt (put w M o vs) xs v fp
  | [], _, _, h, _ => h
  | _ :: _, _, _, ⟨b, k, n, a, c, i, f, g, hv, hb, hn, ht, hs, hr, hf⟩, hM => by
    subst hf
    exact ⟨b, k, n, a, c, i, f, g, hv, (heap_put_ne (hM b (by simp))).trans hb, hn, ht.putne (fun x hx => hM x (by simp [hx])), ScAt.putne hs (fun x hx => hM x (by simp [hx])), hr, rfl⟩

/-- What a check says: the term and the type if there are, else some that do not matter. -/
def ChOut (Z : Bool) (U : Option Nat) (I : Int → World → Prop) (A : List Nat) (w : World) (o : Option (Tm × Ty) × Int) (e : Ending) (w' : World) : Prop :=
  ∃ e' t' r0 r1 r2 r3 r4 r5 r6 r7 r8 r9 r10 r11 r12 r13 r14 k n a c f1 f2, e = .returned (.tuple #[.agg #[.int .i64 r0, .string r1, .int .i64 r2, .int .i64 r3, .slice r5 r4 r6, .int .i64 r7, .slice r9 r8 r10, .int .i64 r11, .slice r13 r12 r14], .agg #[.int .i64 k, .slice a n c], .bool o.1.isSome]) ∧
    Tm.At w' e' (.agg #[.int .i64 r0, .string r1, .int .i64 r2, .int .i64 r3, .slice r5 r4 r6, .int .i64 r7, .slice r9 r8 r10, .int .i64 r11, .slice r13 r12 r14]) f1 ∧ Ty.At w' t' (.agg #[.int .i64 k, .slice a n c]) f2 ∧
    (∀ p, o.1 = some p → p = (e', t')) ∧ Src Z U A w w' (f1 ++ f2) ∧ Bo U w w' ∧ I o.2 w'

theorem no_tm (w : World) : noTm.At w (.agg #[.int .i64 0, .string ⟨#[]⟩, .int .i64 0, .int .i64 0, .slice none 0 0, .int .i64 0, .slice none 0 0, .int .i64 0, .slice none 0 0]) [] :=
  Tm.at_mk.2 ⟨_, _, _, _, _, [], [], [], rfl, by decide, Ty.at_mk.2 ⟨_, rfl, .inl ⟨rfl, rfl, _, _, rfl⟩⟩, Ty.at_mk.2 ⟨_, rfl, .inl ⟨rfl, rfl, _, _, rfl⟩⟩, rfl, .inl ⟨rfl, rfl, _, _, rfl⟩⟩
theorem no_ty (w : World) : (Ty.mk 0 []).At w (.agg #[.int .i64 0, .slice none 0 0]) [] := Ty.at_mk.2 ⟨_, rfl, .inl ⟨rfl, rfl, _, _, rfl⟩⟩

/-- The check failed. -/
theorem ChOut.no {Z : Bool} {U : Option Nat} {I : Int → World → Prop} {A : List Nat} {w w' : World} {s : Int} (hb : Bo U w w') (hI : I s w') :
    ChOut Z U I A w (none, s) (.returned (.tuple #[.agg #[.int .i64 0, .string ⟨#[]⟩, .int .i64 0, .int .i64 0, .slice none 0 0, .int .i64 0, .slice none 0 0, .int .i64 0, .slice none 0 0], .agg #[.int .i64 0, .slice none 0 0], .bool false])) w' :=
  ⟨noTm, .mk 0 [], _, _, _, _, _, _, _, _, _, _, _, _, _, _, _, _, _, _, _, [], [], rfl, no_tm w', no_ty w', (fun p h => by cases h), Src.nil _ _ _ _ _, hb, hI⟩

/-- What a fitter says. -/
def FitOut (Z : Bool) (U : Option Nat) (I : Int → World → Prop) (A : List Nat) (w : World) (o : Option Tm × Int) (e : Ending) (w' : World) : Prop :=
  ∃ e' r0 r1 r2 r3 r4 r5 r6 r7 r8 r9 r10 r11 r12 r13 r14 f, e = .returned (.tuple #[.agg #[.int .i64 r0, .string r1, .int .i64 r2, .int .i64 r3, .slice r5 r4 r6, .int .i64 r7, .slice r9 r8 r10, .int .i64 r11, .slice r13 r12 r14], .bool o.1.isSome]) ∧
    Tm.At w' e' (.agg #[.int .i64 r0, .string r1, .int .i64 r2, .int .i64 r3, .slice r5 r4 r6, .int .i64 r7, .slice r9 r8 r10, .int .i64 r11, .slice r13 r12 r14]) f ∧ (∀ p, o.1 = some p → p = e') ∧ Src Z U A w w' f ∧ Bo U w w' ∧ I o.2 w'

mutual
/-- Each node has as many operands as its kind wants. -/
def kOk : Tm → Bool
  | .mk k _ _ _ _ _ ts => (kidsM k == (ts.length : Int)) && kOkL ts
def kOkL : List Tm → Bool
  | [] => true
  | t :: ts => kOk t && kOkL ts
end

theorem kOkL_get : ∀ {ts : List Tm}, kOkL ts = true → ∀ (j : Nat) (h : j < ts.length), kOk ts[j] = true
  | t :: ts, h, 0, _ => by simp only [kOkL, Bool.and_eq_true] at h; exact h.1
  | t :: ts, h, j + 1, hj => by simp only [kOkL, Bool.and_eq_true] at h; exact kOkL_get h.2 j (by simpa using hj)


/-- What check hands back as a type is valid. -/
theorem chN_vld {F : FitF} {xs : List Bd} {k : Int} {nm : ByteArray} {num : Int} {ty fr : Ty} {lb : Int} {es : List Tm} {us : List Ty} {s s1 : Int} {p : Tm × Ty} (h : chN F xs k nm num ty fr lb es us s = (some p, s1)) : vld p.2 = true := by
  unfold chN at h
  cases hr : ruleM xs k nm ty fr us with
  | none => rw [hr] at h; simp at h
  | some wr =>
    obtain ⟨ws, r⟩ := wr
    rw [hr] at h
    simp only at h
    by_cases hv : vld r = true
    · rw [if_pos hv] at h
      rcases hf : fitL F es us ws s with ⟨_ | es', s2⟩ <;> rw [hf] at h
      · simp at h
      · simp only [Prod.mk.injEq, Option.some.injEq] at h
        rw [← h.1]
        exact hv
    · rw [if_neg hv] at h; simp at h

theorem chM_vld {F : FitF} {xs : List Bd} {t : Tm} {s s1 : Int} {p : Tm × Ty} (h : chM F xs t s = (some p, s1)) : vld p.2 = true := by
  obtain ⟨k, nm, num, ty, fr, lb, ts, rfl⟩ := t.shape
  simp only [chM] at h
  rcases hl : chL F (inS xs k nm ty) ts s with ⟨_ | ps, s2⟩ <;> rw [hl] at h
  · simp at h
  · exact chN_vld h

theorem chL_vld {F : FitF} {xs : List Bd} : ∀ {ts : List Tm} {s s1 : Int} {ps : List (Tm × Ty)}, chL F xs ts s = (some ps, s1) → ∀ u ∈ ps.map Prod.snd, vld u = true
  | [], s, s1, ps, h => by simp only [chL, Prod.mk.injEq, Option.some.injEq] at h; rw [← h.1]; simp
  | t :: ts, s, s1, ps, h => by
    simp only [chL] at h
    rcases hc : chM F xs t s with ⟨_ | p, s2⟩ <;> rw [hc] at h
    · simp at h
    · simp only at h
      rcases hl : chL F xs ts s2 with ⟨_ | qs, s3⟩ <;> rw [hl] at h
      · simp at h
      · simp only [Prod.mk.injEq, Option.some.injEq] at h
        rw [← h.1]
        intro u hu
        rw [List.map_cons] at hu
        rcases List.mem_cons.1 hu with rfl | hu
        · exact chM_vld hc
        · exact chL_vld hl u hu
end Go.Proofs.YtffmpjcjmffdeaaDoor

namespace Go.Proofs.YtffmpjcjmffdeaaDoor
open Go.RowKit

/-- The fields of a cast are right. -/
def own4 (nm : ByteArray) (num : Int) (ty fr : Ty) (lb : Int) : Bool := nm.toList.isEmpty && num == 0 && isLb lb && vld ty && vld fr && cons fr ty

/-- Well formed with casts, down to a depth. -/
def shpC : Nat → Tm → Bool
  | 0, _ => false
  | d + 1, .mk k nm num ty fr lb ts => (kidsM k == (ts.length : Int)) && (k != 13) && (if k = 14 then own4 nm num ty fr lb else ownM k nm num ty fr lb) && ts.all (shpC d)

def vldC (t : Tm) : Bool := shpC 40 t && decide (cntD 40 t ≤ 200)

theorem fldG_14 (nm : ByteArray) (num : Int) (ty fr : Ty) (lb : Int) : fldG 14 nm num ty fr lb = own4 nm num ty fr lb := by
  simp only [fldG, own4, consOf]
  cases nm.toList.isEmpty <;> cases (num == 0) <;> cases isLb lb <;> cases vld ty <;> cases vld fr <;> cases cons fr ty <;> simp

theorem nodeG_14 (k : Int) (nm : ByteArray) (num : Int) (ty fr : Ty) (lb : Int) (n : Nat) : nodeG 14 k nm num ty fr lb n = ((kidsM k == (n : Int)) && (k != 13) && (if k = 14 then own4 nm num ty fr lb else ownM k nm num ty fr lb)) := by
  unfold nodeG
  by_cases h13 : k = 13
  · subst h13
    simp [hasK]
  by_cases hin : 1 ≤ k ∧ k ≤ 14
  · have h1 : hasK 14 k = true := by
      by_cases h : k ≤ 12
      · simp [hasK, hin.1, h]
      · have : k = 14 := by omega
        simp [hasK, this]
    have h2 : (k != 13) = true := by simpa using h13
    rw [h1, h2]
    by_cases h14 : k = 14
    · subst h14
      rw [fldG_14, if_pos rfl]
      simp
    · rw [fldG_own h14, if_neg h14]
      simp
  · rw [kidsM_none (by omega), minus_ne]
    simp

theorem shpG_14 : ∀ (d : Nat) (t : Tm), shpG 14 d t = shpC d t
  | 0, _ => rfl
  | d + 1, .mk k nm num ty fr lb ts => by
    simp only [shpG, shpC, nodeG_14]
    congr 1
    exact List.all_congr rfl (fun t => shpG_14 d t)

theorem cwC_pos (t : Tm) : decide (0 < cwG 14 200 40 t) = vldC t := by
  unfold cwG vldC
  rw [shpG_14]
  have := cntD_pos 40 t
  cases shpC 40 t
  · simp
  · by_cases h : cntD 40 t ≤ 200
    · simp [h]; omega
    · simp [h]

set_option maxHeartbeats 400000 in
theorem castTerms_any (w : World) : Calls Tryd.prog 106 #[] w fun e w' => e = .returned (.agg #[.int .i64 14, .int .i64 200, .int .i64 40]) ∧ Below w.heap.size w w' := by
  go_enter Tryd.func106, Tryd.ntmps106
  go_wp2_with fail
  exact bodyPost_ret (v := .agg #[.int .i64 14, .int .i64 200, .int .i64 40]) (by simp [results, Tryd.results106, go_sem]) rfl ⟨rfl, (Below.refl _ _).alloc (Nat.le_refl _) _⟩

set_option maxHeartbeats 1000000 in
theorem implCastValid (t : Tm) (v : Value) (fp : List Nat) (w : World) (hF : Forms w) (hat : t.At w v fp) :
    Calls Tryd.prog 50 #[v] w fun e w' => e = .returned (.bool (vldC t)) ∧ Below w.heap.size w w' := by
  obtain ⟨k, nm, num, k1, n1, a1, c1, k2, n2, a2, c2, lb, n3, a3, c3, rfl⟩ := hat.agg
  have hb0 : Below w.heap.size w (w.alloc (Obj.cells #[.int .i64 k, .string nm, .int .i64 num, .int .i64 k1, .slice a1 n1 c1, .int .i64 k2, .slice a2 n2 c2, .int .i64 lb, .slice a3 n3 c3] 35)) := (Below.refl _ _).alloc (Nat.le_refl _) _
  have HE := hid (cwC_pos t)
  obtain ⟨z0, z1, z2, z3, z4, z5, z6, z7, z8⟩ := box9 (Below.refl (w.alloc (Obj.cells #[.int .i64 k, .string nm, .int .i64 num, .int .i64 k1, .slice a1 n1 c1, .int .i64 k2, .slice a2 n2 c2, .int .i64 lb, .slice a3 n3 c3] 35)).heap.size (w.alloc (Obj.cells #[.int .i64 k, .string nm, .int .i64 num, .int .i64 k1, .slice a1 n1 c1, .int .i64 k2, .slice a2 n2 c2, .int .i64 lb, .slice a3 n3 c3] 35)))
  have HB := hid hb0
  have HA := hid hat
  have HF := hid hF
  clear hb0 hat hF
  go_enter Tryd.func50, Tryd.ntmps50
  go_wp2_with fail
  go_region_held3 (fun w' => Below (w.alloc (Obj.cells #[.int .i64 k, .string nm, .int .i64 num, .int .i64 k1, .slice a1 n1 c1, .int .i64 k2, .slice a2 n2 c2, .int .i64 lb, .slice a3 n3 c3] 35)).heap.size (w.alloc (Obj.cells #[.int .i64 k, .string nm, .int .i64 num, .int .i64 k1, .slice a1 n1 c1, .int .i64 k2, .slice a2 n2 c2, .int .i64 lb, .slice a3 n3 c3] 35)) w' ∧ w'.cell? ⟨w.heap.size, 0, none⟩ = some (.int .i64 k) ∧ w'.cell? ⟨w.heap.size, 1, none⟩ = some (.string nm) ∧ w'.cell? ⟨w.heap.size, 2, none⟩ = some (.int .i64 num) ∧ w'.cell? ⟨w.heap.size, 3, none⟩ = some (.int .i64 k1) ∧ w'.cell? ⟨w.heap.size, 4, none⟩ = some (.slice a1 n1 c1) ∧ w'.cell? ⟨w.heap.size, 5, none⟩ = some (.int .i64 k2) ∧ w'.cell? ⟨w.heap.size, 6, none⟩ = some (.slice a2 n2 c2) ∧ w'.cell? ⟨w.heap.size, 7, none⟩ = some (.int .i64 lb) ∧ w'.cell? ⟨w.heap.size, 8, none⟩ = some (.slice a3 n3 c3))
    ((refine (fun hB => ⟨hB, cell_keep z0 hB, cell_keep z1 hB, cell_keep z2 hB, cell_keep z3 hB, cell_keep z4 hB, cell_keep z5 hB, cell_keep z6 hB, cell_keep z7 hB, cell_keep z8 hB⟩ : Below (w.alloc (Obj.cells #[.int .i64 k, .string nm, .int .i64 num, .int .i64 k1, .slice a1 n1 c1, .int .i64 k2, .slice a2 n2 c2, .int .i64 lb, .slice a3 n3 c3] 35)).heap.size (w.alloc (Obj.cells #[.int .i64 k, .string nm, .int .i64 num, .int .i64 k1, .slice a1 n1 c1, .int .i64 k2, .slice a2 n2 c2, .int .i64 lb, .slice a3 n3 c3] 35)) _ → _) ?_; (first | exact below_drew _ | exact hk2 | exact hk1)))
    (first
      | (go_at_call 106; refine (castTerms_any _).mono ?_; rintro e w1 ⟨rfl, hy1⟩; have hk1 := below_trans (below_drew _) hy1)
      | (go_at_call 101; refine (accepts_any 14 (by decide) 200 40 40 (by omega) (by omega) (by omega) rfl t _ _ _ (HF.out.below (below_trans HB.out hk1)) (HA.out.below (below_trans HB.out hk1))).mono ?_; rintro e w2 ⟨rfl, hy2⟩; have hk2 := below_trans hk1 hy2))
  go_wp2_with fail
  go_ret
  exact ⟨ret_b HE.out, below_trans HB.out hk2⟩
end Go.Proofs.YtffmpjcjmffdeaaDoor

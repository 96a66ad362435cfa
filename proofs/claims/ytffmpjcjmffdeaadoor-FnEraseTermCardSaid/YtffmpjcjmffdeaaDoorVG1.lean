/- Steps of a region that draws its order, the operation handed over off the region's list. A world in which one block, and new memory, may have changed. Maps whose keys are pairs of pointers to types. Draws: a source of numbers in a block of its own; worlds in which only that block and new ones are written. Maps whose keys are pairs of pointers to terms. A region that draws its order, walked under a condition that holds until one of its operations has come up. The specification's ground types. strings.Builder's contracts, laid at this seat's own numbers. The text of a type: the specification's l1Text. Counting the unknown parts of a type: the specification's function and the program's. The depth of a type: the specification's function and the program's. IsStatic and TypeDepth, of the specification and of the program. CountAny, of the specification and of the program. -/
import Derived.Deep.RegionHeld3
import Derived.Test.YtffmpjcjmffdeaaDoorVPkA
import Derived.LaidEqlPtr
import Derived.ChangeMaps4
import Derived.Maps.Own
import Derived.Shelf.Strings.BuilderK
namespace Go.Proofs.YtffmpjcjmffdeaaDoor
open Go.RowKit

theorem at_list {ops : Array Oper} {i : Nat} {o : Oper} (h : ops.toList[i]? = some o) : ops[i]? = some o := by
  rw [← Array.getElem?_toList]
  exact h

theorem regTake {P : Program} {ops : Array Oper} {Q : Exit → Act → World → Prop} {md : Region.Mode} {S : World → Prop} {i : Nat} {oi : Oper} {v : Value} {fuel : Nat} {listed : Array Bool} {a : Act} {w : World} (hi : ops.toList[i]? = some oi)
    (hs : Region.noSelect ops = true) (hf : Region.free md ops listed i = true) (hr : (Region.ready md ops listed).contains i = true)
    (hQ : ∀ c a w, Q (.panic c) (a.put oi.dst v) w → Q (.panic c) a w) (hy : YieldsIf P ops S oi v a) (hS : S w)
    (h : wpAnyH P md ops Q S fuel (listed.setIfInBounds i true) (a.put oi.dst v) w) : wpAnyH P md ops Q S (fuel + 1) listed a w :=
  wpAnyH_take (at_list hi) hs hf hr hQ hy hS h

theorem regCons {P : Program} {ops : Array Oper} {Q : Exit → Act → World → Prop} {md : Region.Mode} {S : World → Prop} {fuel : Nat} {listed : Array Bool} {a : Act} {w : World} {i : Nat} {o : Oper} (ho : ops.toList[i]? = some o)
    (h : ∀ K' : Act → World → Prop, Shut (∀ a w, S w → (S w → wpAnyH P md ops Q S fuel (listed.setIfInBounds i true) a w) → K' a w) → if Region.wanted o (yielded ops a.tmps) = true then Oper.wp P o a w K' Q else K' (a.put o.dst undef) w) : AllReadyH P md ops Q S fuel listed a w [i] :=
  AllReadyH.cons (at_list ho) h AllReadyH.nil

end Go.Proofs.YtffmpjcjmffdeaaDoor

namespace Go.Proofs.YtffmpjcjmffdeaaDoor
open Go.RowKit

/-- From w to w' only new blocks and the block U have been written. -/
def Cx (U : Nat) (w w' : World) : Prop := w.grownBy w' (some U)

theorem Cx.refl (U : Nat) (w : World) : Cx U w w := World.grownBy.refl _ _
theorem Cx.of_below {U : Nat} {w w' : World} (h : Below w.heap.size w w') : Cx U w w' := ⟨h.os, h.tape, h.output, h.size, fun k hk _ => h.block k hk⟩
theorem Cx.size {U : Nat} {w w' : World} (h : Cx U w w') : w.heap.size ≤ w'.heap.size := World.grownBy.size h

theorem Cx.trans {U : Nat} {a b c : World} (h : Cx U a b) (k : Cx U b c) : Cx U a c :=
  ⟨k.os.trans h.os, k.tape.trans h.tape, k.output.trans h.output, Nat.le_trans h.size k.size, fun i hi hn => (k.block i (Nat.lt_of_lt_of_le hi h.size) hn).trans (h.block i hi hn)⟩

theorem Cx.alloc {U : Nat} {a b : World} (h : Cx U a b) (o : Obj) : Cx U a (b.alloc o) := h.trans (Cx.of_below ((Below.refl _ _).alloc (Nat.le_refl _) _))

theorem Cx.drew {U : Nat} {a b : World} (h : Cx U a b) : Cx U a b.drew := ⟨h.os, h.tape, h.output, h.size, h.block⟩

theorem Cx.drewN {U : Nat} {a b : World} (h : Cx U a b) (n : Nat) : Cx U a (b.drewN n) := ⟨h.os, h.tape, h.output, h.size, h.block⟩

theorem Cx.setCell {U : Nat} {a b : World} (h : Cx U a b) (o : Nat) (u : Value) : Cx U a (b.setCell ⟨U, o, none⟩ u) :=
  ⟨h.os, h.tape, h.output, by rw [size_setCell]; exact h.size, fun i hi hn => (Below.heap_setCell b ⟨U, o, none⟩ u i (fun e => hn (by rw [e]))).trans (h.block i hi hn)⟩

theorem Cx.blk {U : Nat} {w w' : World} (h : Cx U w w') {M : Nat} {o : Obj} (hM : w.heap[M]? = some o) (hn : M ≠ U) : w'.heap[M]? = some o :=
  (h.block M (lt_of_block hM) (fun e => hn (Option.some.inj e))).trans hM

theorem Cx.cell {U : Nat} {w w' : World} (h : Cx U w w') {b o : Nat} {u : Value} (hc : w.cell? ⟨b, o, none⟩ = some u) (hn : b ≠ U) : w'.cell? ⟨b, o, none⟩ = some u :=
  (World.cell?_of_block (w := w) (a := ⟨b, o, none⟩) (h.block b (World.block_lt_of_cell? _ _ hc) (fun e => hn (Option.some.inj e)))).trans hc

theorem Cx.frozen {U : Nat} {w w' : World} (h : Cx U w w') {b o : Nat} {c : Bool} (hc : w.frozen? ⟨b, o, none⟩ = c) (hlt : b < w.heap.size) (hn : b ≠ U) : w'.frozen? ⟨b, o, none⟩ = c :=
  (World.frozen?_of_block (w := w) (a := ⟨b, o, none⟩) (h.block b hlt (fun e => hn (Option.some.inj e)))).trans hc

theorem Cx.ty {U : Nat} {w w' : World} (h : Cx U w w') {t : Ty} {x : Value} {fp : List Nat} (ht : t.At w x fp) (hn : ∀ b ∈ fp, b ≠ U) : t.At w' x fp :=
  ht.congr fun b hb o => World.cell?_of_block (w := w) (a := ⟨b, o, none⟩) (h.block b (ht.lt b hb) (fun e => hn b hb (Option.some.inj e)))

theorem Cx.fresh {U B : Nat} {w w' : World} (h : Cx U w w') {f : List Nat} (hf : Fresh B w f) (hU : U < B) : Fresh B w' f :=
  ⟨hf.1, fun b hb => ⟨(hf.2 b hb).1, Nat.lt_of_lt_of_le (hf.2 b hb).2.1 h.size, fun o => h.frozen ((hf.2 b hb).2.2 o) (hf.2 b hb).2.1 (by have := (hf.2 b hb).1; omega)⟩⟩

theorem Cx.below {U B : Nat} {w w' : World} (h : Cx U w w') (hB : B ≤ w.heap.size) (hU : B ≤ U) : Below B w w' :=
  ⟨h.os, h.tape, h.output, h.size, fun k hk => h.block k (by omega) (fun e => by have := Option.some.inj e; omega)⟩

end Go.Proofs.YtffmpjcjmffdeaaDoor

namespace Go.Proofs.YtffmpjcjmffdeaaDoor
open Go.RowKit

/-- A block of cells of which nothing is frozen. -/
def Raw (w : World) (k : Nat) : Prop := (∃ C T fz, w.heap[k]? = some (.cells C T fz)) ∧ ∀ o, w.frozen? ⟨k, o, none⟩ = false

theorem same_other {P : Program} (w : World) {a b c d : Nat} (hne : ¬ (a = c ∧ b = d)) (ha : Raw w a) (hb : Raw w c) : (sameAddr ⟨a, b, none⟩ ⟨c, d, none⟩).run P w = .ok false w := by
  obtain ⟨⟨C, T, fz, hC⟩, fa⟩ := ha
  obtain ⟨⟨C', T', fz', hC'⟩, fb⟩ := hb
  by_cases hbl : a = c
  · have hbd : b ≠ d := fun e => hne ⟨hbl, e⟩
    simp [sameAddr, hbl]
    try exact hbd
  · simp [sameAddr, hbl, fa, fb, noView, viewAt, World.shape?, hC, hC', mayBeOne, stringish]

theorem Tryd.underPtr : Tryd.prog.underlying 105 = some (.pointer 32) := Tryd.underlying105

theorem ptr_eq (w : World) (n a b c d : Nat) (ha : Raw w a) (hb : Raw w c) :
    (Op.equalIn (n + 1) 105 (.pointer (some ⟨a, b, none⟩)) (.pointer (some ⟨c, d, none⟩))).run Tryd.prog w = .ok (decide (a = c ∧ b = d)) w := by
  obtain ⟨i0, hi, hz0, hz1, hz2⟩ := info_parts (P := Tryd.prog) (e := 32) (z := .agg #[.int .i64 0, .slice none 0 0]) (size := 2) (bytes := 32) (by kernel_rfl)
  by_cases h : a = c ∧ b = d
  · obtain ⟨rfl, rfl⟩ := h
    simp [Op.equalIn, run_underlying Tryd.underPtr, sizeOf, typeInfo, hi, run_sameAddr_same]
  · simp [Op.equalIn, run_underlying Tryd.underPtr, sizeOf, typeInfo, hi, hz1, same_other w h ha hb, h]

/-- The value of a key. -/
def kv (p q : Nat × Nat) : Value := .agg #[.pointer (some ⟨p.1, p.2, none⟩), .pointer (some ⟨q.1, q.2, none⟩)]

theorem kv_inj {p q p' q' : Nat × Nat} (h : kv p q = kv p' q') : p = p' ∧ q = q' := by
  simp only [kv, Value.agg.injEq, Array.mk.injEq, List.cons.injEq, Value.pointer.injEq, Option.some.injEq, Addr.mk.injEq, and_true] at h
  exact ⟨Prod.ext h.1.1 h.1.2, Prod.ext h.2.1 h.2.2⟩

theorem key_eq (w : World) (p q p' q' : Nat × Nat) (h1 : Raw w p.1) (h2 : Raw w q.1) (h3 : Raw w p'.1) (h4 : Raw w q'.1) :
    (Op.equal 152 (kv p q) (kv p' q')).run Tryd.prog w = .ok (decide (p = p' ∧ q = q')) w := by
  have e1 := ptr_eq w 9998 p.1 p.2 p'.1 p'.2 h1 h3
  have e2 := ptr_eq w 9998 q.1 q.2 q'.1 q'.2 h2 h4
  have hs : Tryd.prog.stoodInHeld 152 = false := by kernel_rfl
  simp only [kv, Op.equal, Op.maxDepth] at *
  rw [Op.equalIn]
  simp [run_underlying Tryd.underlying152, hs, Go.part, isAgg, e1, e2]
  obtain ⟨a, b⟩ := p
  obtain ⟨c, d⟩ := q
  obtain ⟨a', b'⟩ := p'
  obtain ⟨c', d'⟩ := q'
  by_cases g1 : a = a' <;> by_cases g2 : b = b' <;> by_cases g3 : c = c' <;> by_cases g4 : d = d' <;> simp [g1, g2, g3, g4]

/-- What the keys of a map are. -/
def KP (w : World) (es : List MapEntry) : Prop := ∀ e ∈ es, ∃ p q : Nat × Nat, e.key = kv p q ∧ e.val = .bool true ∧ Raw w p.1 ∧ Raw w q.1

theorem find_ask (w : World) (p q : Nat × Nat) (h1 : Raw w p.1) (h2 : Raw w q.1) : ∀ (es : List MapEntry) (i : Nat), KP w es →
    ((Instr.findAsking 152 (kv p q) es i).run Tryd.prog w = .ok none w ∧ ∀ e ∈ es, e.key ≠ kv p q) ∨ ∃ j e, (Instr.findAsking 152 (kv p q) es i).run Tryd.prog w = .ok (some (i + j, e.val)) w ∧ es[j]? = some e ∧ e.key = kv p q
  | [], i, _ => .inl ⟨by simp [Instr.findAsking], by simp⟩
  | e :: es, i, h => by
    obtain ⟨p', q', hk, hv, h3, h4⟩ := h e (by simp)
    have hq := key_eq w p q p' q' h1 h2 h3 h4
    rw [← hk] at hq
    by_cases hpq : p = p' ∧ q = q'
    · obtain ⟨rfl, rfl⟩ := hpq
      refine .inr ⟨0, e, ?_, rfl, hk⟩
      simp [Instr.findAsking, hq]
    · rcases find_ask w p q h1 h2 es (i + 1) (fun e' he => h e' (by simp [he])) with ⟨r1, r2⟩ | ⟨j, e', r1, r2, r3⟩
      · refine .inl ⟨by simp [Instr.findAsking, hq, hpq, r1], fun e' he hke => ?_⟩
        rcases List.mem_cons.1 he with rfl | he
        · rw [hk] at hke
          have := kv_inj hke
          exact hpq ⟨this.1.symm, this.2.symm⟩
        · exact r2 e' he hke
      · refine .inr ⟨j + 1, e', ?_, by simpa using r2, r3⟩
        simp [Instr.findAsking, hq, hpq, r1]
        omega

theorem find_key (w : World) (p q : Nat × Nat) (h1 : Raw w p.1) (h2 : Raw w q.1) (es : List MapEntry) (h : KP w es) :
    ((Instr.findKey 152 (kv p q) es).run Tryd.prog w = .ok none w ∧ ∀ e ∈ es, e.key ≠ kv p q) ∨ ∃ j e, (Instr.findKey 152 (kv p q) es).run Tryd.prog w = .ok (some (j, e.val)) w ∧ es[j]? = some e ∧ e.key = kv p q := by
  cases es with
  | nil => exact .inl ⟨by simp [Instr.findKey, run_underlying Tryd.underlying152, Instr.findNow], by simp⟩
  | cons e es =>
    obtain ⟨p', q', hk, hv, h3, h4⟩ := h e (by simp)
    have hn : Instr.findNow (.struct #[]) (kv p q) (e :: es) 0 = none := by simp [Instr.findNow, Instr.sameNow]
    rcases find_ask w p q h1 h2 (e :: es) 0 h with ⟨r1, r2⟩ | ⟨j, e', r1, r2, r3⟩
    · exact .inl ⟨by simp [Instr.findKey, run_underlying Tryd.underlying152, Instr.findNow, Instr.sameNow, r1], r2⟩
    · exact .inr ⟨j, e', by simpa [Instr.findKey, run_underlying Tryd.underlying152, Instr.findNow, Instr.sameNow] using r1, r2, r3⟩

theorem check_any (w : World) (em : Bool) (p q : Nat × Nat) (n : Nat) : (Instr.checkKey em (n + 1 + 1) 152 (kv p q)).run Tryd.prog w = .ok () w := by
  rw [Instr.checkKey]
  simp [kv, run_underlying Tryd.underlying152, run_underlying Tryd.underPtr, Go.part, isAgg, Instr.checkKey]

theorem check_key (w : World) (em : Bool) (p q : Nat × Nat) : (Instr.checkKey em 10000 152 (kv p q)).run Tryd.prog w = .ok () w := check_any w em p q 9998

theorem look_run (w : World) (M : Nat) (es : Array MapEntry) (clock : Nat) (p q : Nat × Nat) (hM : w.heap[M]? = some (.map es clock)) (h : KP w es.toList) (h1 : Raw w p.1) (h2 : Raw w q.1) :
    ∃ r : Bool, (Instr.lookup 96 (.map (some M)) (kv p q) false).run Tryd.prog w = .ok (.bool r) w ∧ (r = true → ∃ e ∈ es.toList, e.key = kv p q) := by
  have hc := check_key w es.isEmpty p q
  have hz : (zeroValue 4).run Tryd.prog w = .ok (.bool false) w := Tryd.zeroValue4 w
  rcases find_key w p q h1 h2 es.toList h with ⟨r1, r2⟩ | ⟨j, e, r1, r2, r3⟩
  · exact ⟨false, by simp [Instr.lookup, run_underlying Tryd.underlying96, getObj, Sem.run, hM, hc, r1, hz], fun h => by cases h⟩
  · have he := List.mem_of_getElem? r2
    obtain ⟨_, _, _, hv, _⟩ := h e he
    rw [hv] at r1
    exact ⟨true, by simp [Instr.lookup, run_underlying Tryd.underlying96, getObj, Sem.run, hM, hc, r1], fun _ => ⟨e, he, r3⟩⟩

theorem stays_run (w : World) (p q : Nat × Nat) : (Instr.keyThatStays (kv p q) (kv p q)).run Tryd.prog w = .ok (kv p q) w := by
  have : Instr.sameBits 10000 (kv p q) (kv p q) = true := by
    rw [show (10000 : Nat) = 9999 + 1 from rfl]
    simp [kv, Instr.sameBits]
  simp [Instr.keyThatStays, this]

theorem store_run (w : World) (M : Nat) (es : Array MapEntry) (clock : Nat) (p q : Nat × Nat) (hM : w.heap[M]? = some (.map es clock)) (h : KP w es.toList) (h1 : Raw w p.1) (h2 : Raw w q.1) :
    ∃ es' clock', (Instr.mapUpdate 96 (.map (some M)) (kv p q) (.bool true)).run Tryd.prog w = .ok () (Go.ChangeMaps.setBlock w M (.map es' clock')) ∧
      ∀ e ∈ es'.toList, (∃ e0 ∈ es.toList, e.key = e0.key ∧ e.val = e0.val) ∨ e.key = kv p q ∧ e.val = .bool true := by
  have hc := check_key w false p q
  have hst := stays_run w p q
  rcases find_key w p q h1 h2 es.toList h with ⟨r1, r2⟩ | ⟨j, e, r1, r2, r3⟩
  · refine ⟨es.push { key := kv p q, val := .bool true, born := clock }, clock + 1, by simp [Instr.mapUpdate, run_underlying Tryd.underlying96, getObj, setObj, Sem.run, hM, hc, r1, Go.ChangeMaps.setBlock], fun e he => ?_⟩
    rw [Array.toList_push] at he
    rcases List.mem_append.1 he with he | he
    · exact .inl ⟨e, he, rfl, rfl⟩
    · obtain rfl : e = _ := by simpa using he
      exact .inr ⟨rfl, rfl⟩
  · have hje : es[j]? = some e := by simpa using r2
    refine ⟨es.modify j fun e => { e with key := kv p q, val := .bool true }, clock, by simp [Instr.mapUpdate, run_underlying Tryd.underlying96, getObj, setObj, Sem.run, hM, hc, r1, hje, r3, hst, Go.ChangeMaps.setBlock], fun e' he => ?_⟩
    obtain ⟨i, hi⟩ := List.mem_iff_getElem?.1 he
    simp only [Array.getElem?_toList, Array.getElem?_modify] at hi
    by_cases hij : j = i
    · rw [if_pos hij] at hi
      obtain ⟨e1, _, rfl⟩ := Option.map_eq_some_iff.1 hi
      exact .inr ⟨rfl, rfl⟩
    · rw [if_neg hij] at hi
      exact .inl ⟨e', List.mem_of_getElem? (by simpa using hi), rfl, rfl⟩

theorem cx_setBlock (w : World) (M : Nat) (o : Obj) : Cx M w (Go.ChangeMaps.setBlock w M o) :=
  ⟨rfl, rfl, rfl, by simp [Go.ChangeMaps.setBlock], fun k _ hn => by
    simp only [Go.ChangeMaps.setBlock, Array.getElem?_setIfInBounds]
    rw [if_neg (fun e => hn (by rw [e]))]⟩

theorem wpList_store_ptr (w : World) {ops : Array Oper} {rest : List Oper} {o : Oper} {a : Act} {Q : Exit → Act → World → Prop} (hg : o.guard = none) (m x v : Operand) (hop : o.op = Op.mapUpdate 96 m x v)
    (M : Nat) (es : Array MapEntry) (clock : Nat) (p q : Nat × Nat) (hm : a.eval m = .map (some M)) (hx : a.eval x = kv p q) (hv : a.eval v = .bool true) (hM : w.heap[M]? = some (.map es clock)) (h : KP w es.toList) (h1 : Raw w p.1) (h2 : Raw w q.1)
    (hK : ∀ w' es' clock', w'.heap[M]? = some (.map es' clock') → Cx M w w' → (∀ e ∈ es'.toList, (∃ e0 ∈ es.toList, e.key = e0.key ∧ e.val = e0.val) ∨ e.key = kv p q ∧ e.val = .bool true) → wpList Tryd.prog ops Q rest (a.put o.dst undef) w') :
    wpList Tryd.prog ops Q (o :: rest) a w := by
  refine wpList_plain hg fun K' hK' => ?_
  obtain ⟨es', clock', hrun, hes⟩ := store_run w M es clock p q hM h h1 h2
  unfold Oper.wp
  simp [execOp, hop, hm, hx, hv, hrun, Result.andThen]
  refine hK' _ _ (hK _ es' clock' ?_ (cx_setBlock w M _) hes)
  simp [Go.ChangeMaps.setBlock, lt_of_block hM]
end Go.Proofs.YtffmpjcjmffdeaaDoor

namespace Go.Proofs.YtffmpjcjmffdeaaDoor
open Go.RowKit

/-- From w to w' only new blocks and block M have been written. -/
structure Rw (M : Nat) (w w' : World) : Prop where
  below : Below M w w'
  size : w.heap.size ≤ w'.heap.size
  above : ∀ k, M < k → k < w.heap.size → w'.heap[k]? = w.heap[k]?

theorem Rw.refl (M : Nat) (w : World) : Rw M w w := ⟨Below.refl _ _, Nat.le_refl _, fun _ _ _ => rfl⟩

theorem Rw.of_below {M : Nat} {w w' : World} (h : Below w.heap.size w w') (hM : M < w.heap.size) : Rw M w w' := ⟨h.mono (Nat.le_of_lt hM), h.size, fun k _ hk => h.block k hk⟩

theorem Rw.trans {M : Nat} {a b c : World} (h : Rw M a b) (k : Rw M b c) : Rw M a c :=
  ⟨h.below.trans k.below, Nat.le_trans h.size k.size, fun i h1 h2 => (k.above i h1 (Nat.lt_of_lt_of_le h2 h.size)).trans (h.above i h1 h2)⟩

theorem Rw.set {M : Nat} {w w' : World} (h : Rw M w w') (o : Nat) (u : Value) : Rw M w (w'.setCell ⟨M, o, none⟩ u) :=
  ⟨h.below.setCell (p := ⟨M, o, none⟩) (Nat.le_refl _) u, by rw [size_setCell]; exact h.size, fun k h1 h2 => (Below.heap_setCell _ _ _ _ (by show k ≠ M; omega)).trans (h.above k h1 h2)⟩

theorem Rw.block {M : Nat} {w w' : World} (h : Rw M w w') {k : Nat} {o : Obj} (hk : w.heap[k]? = some o) (hM : k ≠ M) : w'.heap[k]? = some o := by
  rcases Nat.lt_or_gt_of_ne hM with hl | hl
  · exact (h.below.block k hl).trans hk
  · exact (h.above k hl (lt_of_block hk)).trans hk

theorem Rw.cell {M : Nat} {w w' : World} (h : Rw M w w') {a : Addr} {v : Value} (hc : w.cell? a = some v) (hM : a.block ≠ M) : w'.cell? a = some v := by
  have hl := World.block_lt_of_cell? _ _ hc
  have hb : w'.heap[a.block]? = w.heap[a.block]? := by
    rcases Nat.lt_or_gt_of_ne hM with h1 | h1
    · exact h.below.block _ h1
    · exact h.above _ h1 hl
  exact (World.cell?_of_block (w := w) (a := a) hb).trans hc

theorem Rw.at {M : Nat} {w w' : World} (h : Rw M w w') {t : Ty} {v : Value} {fp : List Nat} (ht : t.At w v fp) (hf : ∀ b ∈ fp, b ≠ M) : t.At w' v fp :=
  ht.congr fun b hb o => World.cell?_of_block (w := w) (a := ⟨b, o, none⟩) (by
    have hl := ht.lt b hb
    rcases Nat.lt_or_gt_of_ne (hf b hb) with h1 | h1
    · exact h.below.block _ h1
    · exact h.above _ h1 hl)

theorem Rw.fresh {M B : Nat} {w w' : World} (h : Rw M w w') {fp : List Nat} (hf : Fresh B w fp) (hM : M < B) : Fresh B w' fp :=
  ⟨hf.1, fun b hb => ⟨(hf.2 b hb).1, Nat.lt_of_lt_of_le (hf.2 b hb).2.1 h.size, fun o => (World.frozen?_of_block (w := w) (a := ⟨b, o, none⟩) (h.above b (by have := (hf.2 b hb).1; omega) (hf.2 b hb).2.1)).trans ((hf.2 b hb).2.2 o)⟩⟩

theorem Rw.grown {M : Nat} {w w' : World} (h : Rw M w w') : w.grownBy w' (some M) :=
  ⟨h.below.os, h.below.tape, h.below.output, h.size, fun k hk hne => by
    have hkM : k ≠ M := fun e => hne (by rw [e])
    rcases Nat.lt_or_gt_of_ne hkM with h1 | h1
    · exact h.below.block k h1
    · exact h.above k h1 hk⟩

theorem GrowT.rw {M B : Nat} {ds : List Ty} {v : Value} {fp : List Nat} {w w' : World} (h : GrowT B ds v fp w) (hM : M < B) (hr : Rw M w w') : GrowT B ds v fp w' := by
  obtain ⟨xs, ho, ha, hf, hn⟩ := h
  refine ⟨xs, ho.kept hr.grown ?_, ha.congr (fun b hm o => World.cell?_of_block (w := w) (a := ⟨b, o, none⟩) (hr.above b (by have := (hf.2 b hm).1; omega) (hf.2 b hm).2.1)), hr.fresh hf hM, hn⟩
  cases hv : v.ownBlock with
  | none => exact .inl rfl
  | some b =>
    right
    intro e
    have := (ho.lt b hv).1
    have := Option.some.inj e
    omega

theorem add_block (a : Addr) (i : Nat) : (a.add i).block = a.block := by
  cases i <;> simp [Addr.add]

/-- The bytes of a source lie ahead of its block. -/
def BytIn (w : World) (M : Nat) (a : Option Addr) (n : Nat) : Prop := ∀ i, i < n → ∃ ad x, a = some ad ∧ ad.block < M ∧ w.cell? (ad.add i) = some (.int .u8 x) ∧ 0 ≤ x ∧ x < 256

theorem BytIn.rw {M : Nat} {w w' : World} {a : Option Addr} {n : Nat} (h : BytIn w M a n) (hr : Rw M w w') : BytIn w' M a n := fun i hi => by
  obtain ⟨ad, x, h1, h2, h3, h4⟩ := h i hi
  exact ⟨ad, x, h1, h2, hr.cell h3 (by rw [add_block]; omega), h4⟩

/-- The source of block M has been asked at most q times. -/
def RdAt (M q : Nat) (w : World) : Prop := ∃ (a : Option Addr) (n cap p : Nat), w.heap[M]? = some (.cells #[.slice a n cap, .int .i64 p] 177 (0, 0)) ∧ BytIn w M a n ∧ n ≤ 2000 ∧ p ≤ q

theorem RdAt.rw {M q : Nat} {w w' : World} (h : RdAt M q w) (hb : Below w.heap.size w w') : RdAt M q w' := by
  obtain ⟨a, n, cap, p, h1, h2, h3⟩ := h
  have hl := lt_of_block h1
  exact ⟨a, n, cap, p, (hb.block M hl).trans h1, h2.rw (Rw.of_below hb hl), h3⟩

theorem RdAt.mono {M q q' : Nat} {w : World} (h : RdAt M q w) (hq : q ≤ q') : RdAt M q' w := by
  obtain ⟨a, n, cap, p, h1, h2, h3, h4⟩ := h
  exact ⟨a, n, cap, p, h1, h2, h3, Nat.le_trans h4 hq⟩

theorem RdAt.lt {M q : Nat} {w : World} (h : RdAt M q w) : M < w.heap.size := by
  obtain ⟨a, n, cap, p, h1, _⟩ := h
  exact lt_of_block h1

theorem RdAt.below1 {M q : Nat} {w w' : World} (h : RdAt M q w) (hb : Below (M + 1) w w') : RdAt M q w' := by
  obtain ⟨a, n, cap, p, h1, h2, h3⟩ := h
  refine ⟨a, n, cap, p, (hb.block M (by omega)).trans h1, fun i hi => ?_, h3⟩
  obtain ⟨ad, x, e1, e2, e3, e4⟩ := h2 i hi
  exact ⟨ad, x, e1, e2, (hb.cell (p := ad.add i) (by rw [add_block]; omega)).trans e3, e4⟩

theorem Rw.tail {M : Nat} {a b c : World} (h : Rw M a b) (k : Below a.heap.size b c) (hM : M < a.heap.size) : Rw M a c :=
  ⟨h.below.trans (k.mono (by omega)), Nat.le_trans h.size k.size, fun i h1 h2 => (k.block i h2).trans (h.above i h1 h2)⟩

theorem Rw.drew {M : Nat} {w : World} (hM : M < w.heap.size) : Rw M w w.drew := Rw.of_below (below_drew w) hM

/-- What a draw of a number says. -/
def PickX (M q : Nat) (w : World) (P : Int → Prop) (e : Ending) (w' : World) : Prop := ∃ i, e = .returned (.int .i64 i) ∧ P i ∧ RdAt M q w' ∧ Rw M w w'

/-- What a draw of a type says. -/
def DrawX (M q : Nat) (w : World) (P : Ty → Prop) (e : Ending) (w' : World) : Prop := ∃ t v fp, e = .returned v ∧ P t ∧ t.At w' v fp ∧ Fresh w.heap.size w' fp ∧ RdAt M q w' ∧ Rw M w w'

end Go.Proofs.YtffmpjcjmffdeaaDoor

namespace Go.Proofs.YtffmpjcjmffdeaaDoor
open Go.RowKit

theorem Tryd.underPtrMm : Tryd.prog.underlying 103 = some (.pointer 35) := Tryd.underlying103

theorem ptr_eqMm (w : World) (n a b c d : Nat) (ha : Raw w a) (hb : Raw w c) :
    (Op.equalIn (n + 1) 103 (.pointer (some ⟨a, b, none⟩)) (.pointer (some ⟨c, d, none⟩))).run Tryd.prog w = .ok (decide (a = c ∧ b = d)) w := by
  obtain ⟨i0, hi, hz0, hz1, hz2⟩ := info_parts (P := Tryd.prog) (e := 35) (z := .agg #[.int .i64 0, .string ByteArray.empty, .int .i64 0, .int .i64 0, .slice none 0 0, .int .i64 0, .slice none 0 0, .int .i64 0, .slice none 0 0]) (size := 9) (bytes := 128) (by kernel_rfl)
  by_cases h : a = c ∧ b = d
  · obtain ⟨rfl, rfl⟩ := h
    simp [Op.equalIn, run_underlying Tryd.underPtrMm, sizeOf, typeInfo, hi, run_sameAddr_same]
  · simp [Op.equalIn, run_underlying Tryd.underPtrMm, sizeOf, typeInfo, hi, hz1, same_other w h ha hb, h]

theorem key_eqMm (w : World) (p q p' q' : Nat × Nat) (h1 : Raw w p.1) (h2 : Raw w q.1) (h3 : Raw w p'.1) (h4 : Raw w q'.1) :
    (Op.equal 155 (kv p q) (kv p' q')).run Tryd.prog w = .ok (decide (p = p' ∧ q = q')) w := by
  have e1 := ptr_eqMm w 9998 p.1 p.2 p'.1 p'.2 h1 h3
  have e2 := ptr_eqMm w 9998 q.1 q.2 q'.1 q'.2 h2 h4
  have hs : Tryd.prog.stoodInHeld 155 = false := by kernel_rfl
  simp only [kv, Op.equal, Op.maxDepth] at *
  rw [Op.equalIn]
  simp [run_underlying Tryd.underlying155, hs, Go.part, isAgg, e1, e2]
  obtain ⟨a, b⟩ := p
  obtain ⟨c, d⟩ := q
  obtain ⟨a', b'⟩ := p'
  obtain ⟨c', d'⟩ := q'
  by_cases g1 : a = a' <;> by_cases g2 : b = b' <;> by_cases g3 : c = c' <;> by_cases g4 : d = d' <;> simp [g1, g2, g3, g4]

theorem find_askMm (w : World) (p q : Nat × Nat) (h1 : Raw w p.1) (h2 : Raw w q.1) : ∀ (es : List MapEntry) (i : Nat), KP w es →
    ((Instr.findAsking 155 (kv p q) es i).run Tryd.prog w = .ok none w ∧ ∀ e ∈ es, e.key ≠ kv p q) ∨ ∃ j e, (Instr.findAsking 155 (kv p q) es i).run Tryd.prog w = .ok (some (i + j, e.val)) w ∧ es[j]? = some e ∧ e.key = kv p q
  | [], i, _ => .inl ⟨by simp [Instr.findAsking], by simp⟩
  | e :: es, i, h => by
    obtain ⟨p', q', hk, hv, h3, h4⟩ := h e (by simp)
    have hq := key_eqMm w p q p' q' h1 h2 h3 h4
    rw [← hk] at hq
    by_cases hpq : p = p' ∧ q = q'
    · obtain ⟨rfl, rfl⟩ := hpq
      refine .inr ⟨0, e, ?_, rfl, hk⟩
      simp [Instr.findAsking, hq]
    · rcases find_askMm w p q h1 h2 es (i + 1) (fun e' he => h e' (by simp [he])) with ⟨r1, r2⟩ | ⟨j, e', r1, r2, r3⟩
      · refine .inl ⟨by simp [Instr.findAsking, hq, hpq, r1], fun e' he hke => ?_⟩
        rcases List.mem_cons.1 he with rfl | he
        · rw [hk] at hke
          have := kv_inj hke
          exact hpq ⟨this.1.symm, this.2.symm⟩
        · exact r2 e' he hke
      · refine .inr ⟨j + 1, e', ?_, by simpa using r2, r3⟩
        simp [Instr.findAsking, hq, hpq, r1]
        omega

theorem find_keyMm (w : World) (p q : Nat × Nat) (h1 : Raw w p.1) (h2 : Raw w q.1) (es : List MapEntry) (h : KP w es) :
    ((Instr.findKey 155 (kv p q) es).run Tryd.prog w = .ok none w ∧ ∀ e ∈ es, e.key ≠ kv p q) ∨ ∃ j e, (Instr.findKey 155 (kv p q) es).run Tryd.prog w = .ok (some (j, e.val)) w ∧ es[j]? = some e ∧ e.key = kv p q := by
  cases es with
  | nil => exact .inl ⟨by simp [Instr.findKey, run_underlying Tryd.underlying155, Instr.findNow], by simp⟩
  | cons e es =>
    obtain ⟨p', q', hk, hv, h3, h4⟩ := h e (by simp)
    have hn : Instr.findNow (.struct #[]) (kv p q) (e :: es) 0 = none := by simp [Instr.findNow, Instr.sameNow]
    rcases find_askMm w p q h1 h2 (e :: es) 0 h with ⟨r1, r2⟩ | ⟨j, e', r1, r2, r3⟩
    · exact .inl ⟨by simp [Instr.findKey, run_underlying Tryd.underlying155, Instr.findNow, Instr.sameNow, r1], r2⟩
    · exact .inr ⟨j, e', by simpa [Instr.findKey, run_underlying Tryd.underlying155, Instr.findNow, Instr.sameNow] using r1, r2, r3⟩

theorem check_anyMm (w : World) (em : Bool) (p q : Nat × Nat) (n : Nat) : (Instr.checkKey em (n + 1 + 1) 155 (kv p q)).run Tryd.prog w = .ok () w := by
  rw [Instr.checkKey]
  simp [kv, run_underlying Tryd.underlying155, run_underlying Tryd.underPtrMm, Go.part, isAgg, Instr.checkKey]

theorem check_keyMm (w : World) (em : Bool) (p q : Nat × Nat) : (Instr.checkKey em 10000 155 (kv p q)).run Tryd.prog w = .ok () w := check_anyMm w em p q 9998

theorem look_runMm (w : World) (M : Nat) (es : Array MapEntry) (clock : Nat) (p q : Nat × Nat) (hM : w.heap[M]? = some (.map es clock)) (h : KP w es.toList) (h1 : Raw w p.1) (h2 : Raw w q.1) :
    ∃ r : Bool, (Instr.lookup 102 (.map (some M)) (kv p q) false).run Tryd.prog w = .ok (.bool r) w ∧ (r = true → ∃ e ∈ es.toList, e.key = kv p q) := by
  have hc := check_keyMm w es.isEmpty p q
  have hz : (zeroValue 4).run Tryd.prog w = .ok (.bool false) w := Tryd.zeroValue4 w
  rcases find_keyMm w p q h1 h2 es.toList h with ⟨r1, r2⟩ | ⟨j, e, r1, r2, r3⟩
  · exact ⟨false, by simp [Instr.lookup, run_underlying Tryd.underlying102, getObj, Sem.run, hM, hc, r1, hz], fun h => by cases h⟩
  · have he := List.mem_of_getElem? r2
    obtain ⟨_, _, _, hv, _⟩ := h e he
    rw [hv] at r1
    exact ⟨true, by simp [Instr.lookup, run_underlying Tryd.underlying102, getObj, Sem.run, hM, hc, r1], fun _ => ⟨e, he, r3⟩⟩

theorem store_runMm (w : World) (M : Nat) (es : Array MapEntry) (clock : Nat) (p q : Nat × Nat) (hM : w.heap[M]? = some (.map es clock)) (h : KP w es.toList) (h1 : Raw w p.1) (h2 : Raw w q.1) :
    ∃ es' clock', (Instr.mapUpdate 102 (.map (some M)) (kv p q) (.bool true)).run Tryd.prog w = .ok () (Go.ChangeMaps.setBlock w M (.map es' clock')) ∧
      ∀ e ∈ es'.toList, (∃ e0 ∈ es.toList, e.key = e0.key ∧ e.val = e0.val) ∨ e.key = kv p q ∧ e.val = .bool true := by
  have hc := check_keyMm w false p q
  have hst := stays_run w p q
  rcases find_keyMm w p q h1 h2 es.toList h with ⟨r1, r2⟩ | ⟨j, e, r1, r2, r3⟩
  · refine ⟨es.push { key := kv p q, val := .bool true, born := clock }, clock + 1, by simp [Instr.mapUpdate, run_underlying Tryd.underlying102, getObj, setObj, Sem.run, hM, hc, r1, Go.ChangeMaps.setBlock], fun e he => ?_⟩
    rw [Array.toList_push] at he
    rcases List.mem_append.1 he with he | he
    · exact .inl ⟨e, he, rfl, rfl⟩
    · obtain rfl : e = _ := by simpa using he
      exact .inr ⟨rfl, rfl⟩
  · have hje : es[j]? = some e := by simpa using r2
    refine ⟨es.modify j fun e => { e with key := kv p q, val := .bool true }, clock, by simp [Instr.mapUpdate, run_underlying Tryd.underlying102, getObj, setObj, Sem.run, hM, hc, r1, hje, r3, hst, Go.ChangeMaps.setBlock], fun e' he => ?_⟩
    obtain ⟨i, hi⟩ := List.mem_iff_getElem?.1 he
    simp only [Array.getElem?_toList, Array.getElem?_modify] at hi
    by_cases hij : j = i
    · rw [if_pos hij] at hi
      obtain ⟨e1, _, rfl⟩ := Option.map_eq_some_iff.1 hi
      exact .inr ⟨rfl, rfl⟩
    · rw [if_neg hij] at hi
      exact .inl ⟨e', List.mem_of_getElem? (by simpa using hi), rfl, rfl⟩

theorem wpList_store_ptrMm (w : World) {ops : Array Oper} {rest : List Oper} {o : Oper} {a : Act} {Q : Exit → Act → World → Prop} (hg : o.guard = none) (m x v : Operand) (hop : o.op = Op.mapUpdate 102 m x v)
    (M : Nat) (es : Array MapEntry) (clock : Nat) (p q : Nat × Nat) (hm : a.eval m = .map (some M)) (hx : a.eval x = kv p q) (hv : a.eval v = .bool true) (hM : w.heap[M]? = some (.map es clock)) (h : KP w es.toList) (h1 : Raw w p.1) (h2 : Raw w q.1)
    (hK : ∀ w' es' clock', w'.heap[M]? = some (.map es' clock') → Cx M w w' → (∀ e ∈ es'.toList, (∃ e0 ∈ es.toList, e.key = e0.key ∧ e.val = e0.val) ∨ e.key = kv p q ∧ e.val = .bool true) → wpList Tryd.prog ops Q rest (a.put o.dst undef) w') :
    wpList Tryd.prog ops Q (o :: rest) a w := by
  refine wpList_plain hg fun K' hK' => ?_
  obtain ⟨es', clock', hrun, hes⟩ := store_runMm w M es clock p q hM h h1 h2
  unfold Oper.wp
  simp [execOp, hop, hm, hx, hv, hrun, Result.andThen]
  refine hK' _ _ (hK _ es' clock' ?_ (cx_setBlock w M _) hes)
  simp [Go.ChangeMaps.setBlock, lt_of_block hM]
end Go.Proofs.YtffmpjcjmffdeaaDoor

namespace Go.Proofs.YtffmpjcjmffdeaaDoor
open Go.RowKit

section
variable {P : Program} {ops : Array Oper} {Q : Exit → Act → World → Prop} {md : Region.Mode} {s : Nat} {S0 S1 : World → Prop}

/-- S1 holds; and S0, as long as operation s has not come up. -/
def SLx (s : Nat) (S0 S1 : World → Prop) (l : Array Bool) (w : World) : Prop := S1 w ∧ (l.getD s true = false → S0 w)

theorem SLx_set {l : Array Bool} {i : Nat} (h : i ≠ s) (w : World) : SLx s S0 S1 (l.setIfInBounds i true) w ↔ SLx s S0 S1 l w := by
  unfold SLx
  have e : (l.setIfInBounds i true).getD s true = l.getD s true := by
    simp only [Array.getD_eq_getD_getElem?, Array.getElem?_setIfInBounds_ne h]
  rw [e]

/-- Whatever order is picked from here on; behind each operation the condition of that moment holds. -/
def wpAnyL (P : Program) (md : Region.Mode) (ops : Array Oper) (Q : Exit → Act → World → Prop) (s : Nat) (S0 S1 : World → Prop) : Nat → Array Bool → Act → World → Prop
  | 0, listed, a, w => Region.ready md ops listed = [] ∧ Q .normal a w
  | fuel + 1, listed, a, w =>
    (Region.ready md ops listed = [] → Q .normal a w) ∧
    ∀ i ∈ Region.ready md ops listed, wpOp P ops Q i (fun a' w' => SLx s S0 S1 (listed.setIfInBounds i true) w' ∧ wpAnyL P md ops Q s S0 S1 fuel (listed.setIfInBounds i true) a' w') a w

theorem wpAny_of_L : ∀ (fuel : Nat) (listed : Array Bool) (a : Act) (w : World), wpAnyL P md ops Q s S0 S1 fuel listed a w → wpAny P md ops Q fuel listed a w
  | 0, _, _, _, h => h
  | fuel + 1, _, _, _, h => ⟨h.1, fun i hi => wpOp_mono (fun a' w' h' => wpAny_of_L fuel _ a' w' h'.2) (h.2 i hi)⟩

theorem wpAnyL_first (flag : Bool) {i : Nat} {oi : Oper} {v : Value} (hi : ops[i]? = some oi) (hsel : ∀ (j : Nat) (o : Oper) cs b, ops[j]? = some o → o.op ≠ .select cs b)
    (hQ : ∀ c a w, Q (.panic c) (a.put oi.dst v) w → Q (.panic c) a w) (his : i ≠ s) (hwait : flag = true → ∃ os e, ops[s]? = some os ∧ e ∈ os.after ∧ Region.binds md e = true ∧ e.on = i) :
    ∀ (fuel : Nat) (listed : Array Bool) (a : Act) (w : World),
      (∀ j oj, ops[j]? = some oj → j ≠ i → listed.getD j true = false → (∀ e ∈ oj.after, Region.binds md e = true → e.on ≠ i) → oi.apart ops oj = true) →
      i ∈ Region.ready md ops listed → YieldsIf P ops (fun w => S1 w ∧ (flag = true → S0 w)) oi v a → (flag = true → listed.getD s true = false) → SLx s S0 S1 listed w →
      wpAnyL P md ops Q s S0 S1 fuel (listed.setIfInBounds i true) (a.put oi.dst v) w → wpAnyL P md ops Q s S0 S1 (fuel + 1) listed a w := by
  intro fuel
  induction fuel with
  | zero =>
    intro listed a w _ hr hy hfl hS H
    refine ⟨fun h => (by rw [h] at hr; cases hr), fun j hj => ?_⟩
    by_cases hji : j = i
    · subst hji; exact hy.wpOp hi ⟨hS.1, fun h => hS.2 (hfl h)⟩ ⟨(SLx_set his w).2 hS, H⟩
    · have := ready_mono hj hji
      rw [H.1] at this
      cases this
  | succ fuel ih =>
    intro listed a w hfree hr hy hfl hS H
    refine ⟨fun h => (by rw [h] at hr; cases hr), fun j hj => ?_⟩
    by_cases hji : j = i
    · subst hji; exact hy.wpOp hi ⟨hS.1, fun h => hS.2 (hfl h)⟩ ⟨(SLx_set his w).2 hS, H⟩
    · have h1 := H.2 j (ready_mono hj hji)
      obtain ⟨hjun, oj, hoj, hall⟩ := mem_ready.1 hj
      have hnot : ∀ e ∈ oj.after, Region.binds md e = true → e.on ≠ i := fun e he hb heq => by
        have h1 := hall e he hb
        have h0 := (mem_ready.1 hr).1
        rw [heq] at h1
        rcases Nat.lt_or_ge i listed.size with h' | h'
        · simp [h'] at h0 h1; rw [h0] at h1; cases h1
        · simp [Array.getElem?_eq_none h'] at h1
      have hjs : flag = true → j ≠ s := fun hf e => by
        obtain ⟨os, e', hos, he', hb, hon⟩ := hwait hf
        subst e
        rw [hos] at hoj
        cases hoj
        exact hnot e' he' hb hon
      have h2 := wpOp_putIf hoj (hfree j oj hoj hji hjun hnot) (fun cs b => hsel i oi cs b hi) (fun cs b => hsel j oj cs b hoj) hQ hy h1
      have hfree' : ∀ k ok, ops[k]? = some ok → k ≠ i → (listed.setIfInBounds j true).getD k true = false →
          (∀ e ∈ ok.after, Region.binds md e = true → e.on ≠ i) → oi.apart ops ok = true := fun k ok hk hki hun hno => by
        refine hfree k ok hk hki ?_ hno
        by_cases hjk : j = k
        · subst hjk; exact hjun
        · rw [getD_set_ne true hjk] at hun; exact hun
      have hfl' : flag = true → (listed.setIfInBounds j true).getD s true = false := fun hf => by rw [getD_set_ne true (hjs hf)]; exact hfl hf
      refine wpOp_mono (fun a' w' h3 => ?_) h2
      have hS' : SLx s S0 S1 (listed.setIfInBounds j true) w' := by
        have := h3.2.1
        rw [Array.setIfInBounds_comm _ _ (Ne.symm hji)] at this
        exact (SLx_set his w').1 this
      refine ⟨hS', ih (listed.setIfInBounds j true) a' w' hfree' (ready_mono hr (Ne.symm hji)) h3.1 hfl' hS' ?_⟩
      rw [Array.setIfInBounds_comm _ _ hji]
      exact h3.2.2

/-- Taken first under S1 alone. -/
theorem takeL {i : Nat} {oi : Oper} {v : Value} {fuel : Nat} {listed : Array Bool} {a : Act} {w : World} (hi : ops.toList[i]? = some oi)
    (hs : Region.noSelect ops = true) (hf : Region.free md ops listed i = true) (hr : (Region.ready md ops listed).contains i = true) (his : i ≠ s)
    (hQ : ∀ c a w, Q (.panic c) (a.put oi.dst v) w → Q (.panic c) a w) (hy : YieldsIf P ops S1 oi v a) (hS : SLx s S0 S1 listed w)
    (h : wpAnyL P md ops Q s S0 S1 fuel (listed.setIfInBounds i true) (a.put oi.dst v) w) : wpAnyL P md ops Q s S0 S1 (fuel + 1) listed a w := by
  have hi' : ops[i]? = some oi := by rw [← Array.getElem?_toList]; exact hi
  refine wpAnyL_first false hi' (Region.noSelect_spec hs) hQ his (fun h => by cases h) fuel listed a w (Region.free_spec hi' hf) (by simpa using hr) ?_ (fun h => by cases h) hS h
  rcases hy with ⟨h1, h2⟩ | h
  · exact .inl ⟨h1, fun w hw => h2 w hw.1⟩
  · exact .inr h

/-- Taken first under S0 too: s waits for it, and has not come up. -/
theorem takeL0 {i : Nat} {oi os : Oper} {v : Value} {fuel : Nat} {listed : Array Bool} {a : Act} {w : World} (hi : ops.toList[i]? = some oi) (hos : ops.toList[s]? = some os)
    (hs : Region.noSelect ops = true) (hf : Region.free md ops listed i = true) (hr : (Region.ready md ops listed).contains i = true) (his : i ≠ s)
    (hw : (os.after.toList.any fun e => Region.binds md e && e.on == i) = true) (hl : listed.getD s true = false)
    (hQ : ∀ c a w, Q (.panic c) (a.put oi.dst v) w → Q (.panic c) a w) (hy : YieldsIf P ops (fun w => S1 w ∧ S0 w) oi v a) (hS : SLx s S0 S1 listed w)
    (h : wpAnyL P md ops Q s S0 S1 fuel (listed.setIfInBounds i true) (a.put oi.dst v) w) : wpAnyL P md ops Q s S0 S1 (fuel + 1) listed a w := by
  have hi' : ops[i]? = some oi := by rw [← Array.getElem?_toList]; exact hi
  have hos' : ops[s]? = some os := by rw [← Array.getElem?_toList]; exact hos
  refine wpAnyL_first true hi' (Region.noSelect_spec hs) hQ his (fun _ => ?_) fuel listed a w (Region.free_spec hi' hf) (by simpa using hr) ?_ (fun _ => hl) hS h
  · obtain ⟨e, he, h2⟩ := List.any_eq_true.1 hw
    rw [Bool.and_eq_true] at h2
    exact ⟨os, e, hos', by simpa using he, h2.1, by simpa using h2.2⟩
  · rcases hy with ⟨h1, h2⟩ | h
    · exact .inl ⟨h1, fun w hw => h2 w ⟨hw.1, hw.2 rfl⟩⟩
    · exact .inr h

def AllReadyL (P : Program) (md : Region.Mode) (ops : Array Oper) (Q : Exit → Act → World → Prop) (s : Nat) (S0 S1 : World → Prop) (fuel : Nat) (listed : Array Bool) (a : Act) (w : World) (rs : List Nat) : Prop :=
  ∀ i ∈ rs, wpOp P ops Q i (fun a' w' => SLx s S0 S1 (listed.setIfInBounds i true) w' ∧ wpAnyL P md ops Q s S0 S1 fuel (listed.setIfInBounds i true) a' w') a w

theorem AllReadyL.nil {fuel : Nat} {listed : Array Bool} {a : Act} {w : World} : AllReadyL P md ops Q s S0 S1 fuel listed a w [] := fun _ h => by cases h

theorem AllReadyL.cons {fuel : Nat} {listed : Array Bool} {a : Act} {w : World} {i : Nat} {o : Oper} {rs : List Nat} (ho : ops.toList[i]? = some o)
    (h : ∀ K' : Act → World → Prop, Shut (∀ a w, SLx s S0 S1 (listed.setIfInBounds i true) w → (SLx s S0 S1 (listed.setIfInBounds i true) w → wpAnyL P md ops Q s S0 S1 fuel (listed.setIfInBounds i true) a w) → K' a w) → if Region.wanted o (yielded ops a.tmps) = true then Oper.wp P o a w K' Q else K' (a.put o.dst undef) w)
    (hs : AllReadyL P md ops Q s S0 S1 fuel listed a w rs) : AllReadyL P md ops Q s S0 S1 fuel listed a w (i :: rs) := fun j hj => by
  have ho' : ops[i]? = some o := by rw [← Array.getElem?_toList]; exact ho
  rcases List.mem_cons.1 hj with rfl | hj
  · exact wpOp_step ho' (fun K' hK => h K' (fun a w hS hW => hK a w ⟨hS, hW hS⟩))
  · exact hs j hj

theorem readyL {rs : List Nat} {fuel : Nat} {listed : Array Bool} {a : Act} {w : World} (hr : Region.ready md ops listed = rs) (hne : rs ≠ [])
    (h : AllReadyL P md ops Q s S0 S1 fuel listed a w rs) : wpAnyL P md ops Q s S0 S1 (fuel + 1) listed a w :=
  ⟨fun h0 => absurd (hr ▸ h0) hne, hr ▸ h⟩

theorem doneL {listed : Array Bool} {a : Act} {w : World} (hr : Region.ready md ops listed = []) (h : Q .normal a w) : ∀ fuel, wpAnyL P md ops Q s S0 S1 fuel listed a w
  | 0 => ⟨hr, h⟩
  | _ + 1 => ⟨fun _ => h, by rw [hr]; simp⟩

theorem regionL {id : Nat} {a : Act} {w : World} (hm : P.follows .mixedOrders = true) (h0 : S0 w.drew) (h1 : S1 w.drew)
    (h : SLx s S0 S1 (Array.replicate ops.size false) w.drew → wpAnyL P .any ops Q s S0 S1 ops.size (Array.replicate ops.size false) a w.drew) : (Code.region id ops true).wp P Q a w :=
  wp_region_any hm (wpAny_of_L _ _ _ _ (h ⟨h1, fun _ => h0⟩))
end
end Go.Proofs.YtffmpjcjmffdeaaDoor

namespace Go.Proofs.YtffmpjcjmffdeaaDoor
open Go.RowKit

def grdL (ts : List Ty) : List Ty := ts.map fun _ => .mk 1 []
end Go.Proofs.YtffmpjcjmffdeaaDoor

namespace Go.Proofs.YtffmpjcjmffdeaaDoor
open Go.Shelf Go.RowKit

def bldRen : Go.Shelf.Ren := ⟨fun | 167 => 140 | 169 => 141 | 240 => 170 | 276 => 184 | n => n, fun | 0 => 0 | 3 => 3 | 4 => 4 | 5 => 5 | 9 => 9 | 20 => 20 | 37 => 55 | 70 => 158 | 72 => 160 | 75 => 162 | 80 => 117 | 127 => 188 | 164 => 196 | n => n, fun | n => n⟩
theorem bldLays167 : Go.Proofs.Lays.n167 Tryd.prog bldRen := {
  mixed := by kernel_rfl
  f167 := Tryd.func140.trans (congrArg some (by kernel_rfl))
  f240 := Tryd.func170.trans (congrArg some (by kernel_rfl))
  f276 := Tryd.func184.trans (congrArg some (by kernel_rfl))
  t0 := Tryd.underlying0
  a0 := Tryd.isAgg0
  z0 := Tryd.sizeOf0
  v0 := Tryd.zeroValue0
  t4 := Tryd.underlying4
  a4 := Tryd.isAgg4
  z4 := Tryd.sizeOf4
  v4 := Tryd.zeroValue4
  t5 := Tryd.underlying5
  a5 := Tryd.isAgg5
  z5 := Tryd.sizeOf5
  v5 := Tryd.zeroValue5
  t9 := Tryd.underlying9
  a9 := Tryd.isAgg9
  z9 := Tryd.sizeOf9
  v9 := Tryd.zeroValue9
  t20 := Tryd.underlying20
  a20 := Tryd.isAgg20
  z20 := Tryd.sizeOf20
  v20 := Tryd.zeroValue20
  t37 := Tryd.underlying55
  a37 := Tryd.isAgg55
  z37 := Tryd.sizeOf55
  v37 := Tryd.zeroValue55
  t70 := Tryd.underlying158
  a70 := Tryd.isAgg158
  z70 := Tryd.sizeOf158
  v70 := Tryd.zeroValue158
  t72 := Tryd.underlying160
  a72 := Tryd.isAgg160
  z72 := Tryd.sizeOf160
  v72 := Tryd.zeroValue160
  t75 := Tryd.underlying162
  a75 := Tryd.isAgg162
  z75 := Tryd.sizeOf162
  v75 := Tryd.zeroValue162
  t164 := Tryd.underlying196
  a164 := Tryd.isAgg196
  z164 := Tryd.sizeOf196
  v164 := Tryd.zeroValue196 }
theorem bldLays169 : Go.Proofs.Lays.n169 Tryd.prog bldRen := {
  mixed := by kernel_rfl
  f169 := Tryd.func141.trans (congrArg some (by kernel_rfl))
  t0 := Tryd.underlying0
  a0 := Tryd.isAgg0
  z0 := Tryd.sizeOf0
  v0 := Tryd.zeroValue0
  t3 := Tryd.underlying3
  a3 := Tryd.isAgg3
  z3 := Tryd.sizeOf3
  v3 := Tryd.zeroValue3
  t9 := Tryd.underlying9
  a9 := Tryd.isAgg9
  z9 := Tryd.sizeOf9
  v9 := Tryd.zeroValue9
  t37 := Tryd.underlying55
  a37 := Tryd.isAgg55
  z37 := Tryd.sizeOf55
  v37 := Tryd.zeroValue55
  t70 := Tryd.underlying158
  a70 := Tryd.isAgg158
  z70 := Tryd.sizeOf158
  v70 := Tryd.zeroValue158
  t72 := Tryd.underlying160
  a72 := Tryd.isAgg160
  z72 := Tryd.sizeOf160
  v72 := Tryd.zeroValue160
  t127 := Tryd.underlying188
  a127 := Tryd.isAgg188
  z127 := Tryd.sizeOf188
  v127 := Tryd.zeroValue188 }
theorem bldExtra : Builder.Extra Tryd.prog bldRen := {
  sizeBuilder := by kernel_rfl
  liesBuilder := by kernel_rfl
  t5 := Tryd.underlying5
  a5 := Tryd.isAgg5
  z5 := Tryd.sizeOf5
  v5 := Tryd.zeroValue5
  infoByte := by kernel_rfl
  cellsByte := by kernel_rfl
  sizeByte := by kernel_rfl
  neB5 := by decide }

theorem bldWriteByte (B b : Nat) (bs : List Value) (c : Int) (w : World) (h : Lib.IsBuilderF 160 5 B b bs w) (hlen : bs.length + 1 ≤ 140737488355328) (hBw : B ≤ w.heap.size) :
    Calls Tryd.prog 140 #[.pointer (some ⟨b, 0, none⟩), .int .u8 c] w fun e w' => e = .returned .nilIface ∧ (Lib.BuilderAtF 160 5 B b (.pointer (some ⟨b, 0, none⟩)) (bs ++ [.int .u8 c]) w' ∧ Below B w w' ∧ Lib.OthersKept 5 (some b) w w') :=
  Any.Builder_WriteByte_k bldLays167 bldExtra B b bs c w h hlen hBw

theorem bldString (B b : Nat) (l : List UInt8) (w : World) (h : Lib.IsBuilderF 160 5 B b (Lib.byteCells l) w) (hBw : B ≤ w.heap.size) :
    Calls Tryd.prog 141 #[.pointer (some ⟨b, 0, none⟩)] w fun e w' => e = .returned (.string ⟨l.toArray⟩) ∧ (Lib.IsBuilderF 160 5 B b (Lib.byteCells l) w' ∧ Below B w w' ∧ Lib.OthersKept 5 (some b) w w') :=
  Any.Builder_String_any_k bldLays169 bldExtra B b l w h hBw
end Go.Proofs.YtffmpjcjmffdeaaDoor

namespace Go.Proofs.YtffmpjcjmffdeaaDoor
open Go.RowKit

/-- A well-formed tree is a leaf or has two well-formed operands. -/
theorem shp_cases {d : Nat} {k : Int} {ts : List Ty} (h : shp (d + 1) (.mk k ts) = true) :
    (ts = [] ∧ (k = 1 ∨ k = 2 ∨ k = 3)) ∨ ∃ a b, ts = [a, b] ∧ (k = 4 ∨ k = 5) ∧ shp d a = true ∧ shp d b = true := by
  simp only [shp, Bool.and_eq_true, beq_iff_eq] at h
  obtain ⟨h1, h2⟩ := h
  unfold kidsOf at h1
  by_cases hk : k = 1 ∨ k = 2 ∨ k = 3
  · rw [if_pos hk] at h1
    exact .inl ⟨List.length_eq_zero_iff.1 (by omega), hk⟩
  · rw [if_neg hk] at h1
    by_cases hk2 : k = 4 ∨ k = 5
    · rw [if_pos hk2] at h1
      match ts, h1 with
      | [a, b], _ =>
        simp only [List.all_cons, List.all_nil, Bool.and_true, Bool.and_eq_true] at h2
        exact .inr ⟨a, b, rfl, hk2, h2.1, h2.2⟩
    · rw [if_neg hk2] at h1
      omega

/-- The parts of a pair's reading. -/
theorem SlAt.two {w : World} {x y : Ty} {s : Value} {fp : List Nat} (h : SlAt w [x, y] s fp) :
    ∃ b o cap k1 n1 a1 c1 k2 n2 a2 c2 f1 f2, s = .slice (some ⟨b, o, none⟩) 2 cap ∧ b < w.heap.size ∧ w.cell? ⟨b, o, none⟩ = some (.int .i64 k1) ∧ w.cell? ⟨b, o + 1, none⟩ = some (.slice a1 n1 c1) ∧ w.cell? ⟨b, o + 2, none⟩ = some (.int .i64 k2) ∧ w.cell? ⟨b, o + 2 + 1, none⟩ = some (.slice a2 n2 c2) ∧
      x.At w (.agg #[.int .i64 k1, .slice a1 n1 c1]) f1 ∧ y.At w (.agg #[.int .i64 k2, .slice a2 n2 c2]) f2 ∧ fp = b :: (f1 ++ f2) ∧ 2 ≤ cap := by
  rcases h with ⟨h, _⟩ | ⟨b, o, cap, f, rfl, _, hc, _, hl, rfl⟩
  · cases h
  · obtain ⟨v0, v1, f1, f2, c0, c1, hx, hl, rfl⟩ := hl
    obtain ⟨u0, u1, g1, g2, d0, d1, hy, hl, rfl⟩ := hl
    cases hl
    obtain ⟨k1, n1, a1, cap1, hv⟩ := hx.agg
    obtain ⟨k2, n2, a2, cap2, hu⟩ := hy.agg
    simp only [Value.agg.injEq, Array.mk.injEq, List.cons.injEq, and_true] at hv hu
    obtain ⟨rfl, rfl⟩ := hv
    obtain ⟨rfl, rfl⟩ := hu
    exact ⟨b, o, cap, k1, n1, a1, cap1, k2, n2, a2, cap2, f1, g1, rfl, World.block_lt_of_cell? _ _ c0, c0, c1, d0, d1, hx, hy, by simp, hc⟩

theorem ret_s {a b : ByteArray} (h : a = b) : Ending.returned (.string a) = .returned (.string b) := by rw [h]

end Go.Proofs.YtffmpjcjmffdeaaDoor

namespace Go.Proofs.YtffmpjcjmffdeaaDoor
open Go.RowKit

def CuC (t : Ty) : Prop := ∀ (v : Value) (fp : List Nat) (w : World), t.At w v fp → t.cnt ≤ 1048576 →
  Calls Tryd.prog 92 #[v] w fun e w' => e = .returned (.int .i64 (cntAny t)) ∧ Below w.heap.size w w'

set_option maxHeartbeats 400000 in
theorem countUnknown_of (k : Int) (ts : List Ty) (ih : ∀ t ∈ ts, CuC t) : CuC (.mk k ts) := by
  intro v fp w hat hn
  have HIH := hid ih
  clear ih
  obtain ⟨s, rfl, hs⟩ := Ty.at_mk.1 hat
  obtain ⟨a, cap, rfl, hc, hm, hget⟩ := hs.openA
  have HG := hid hget
  have HN := hid (show ts.length + cntL ts ≤ 1048576 by simpa only [Ty.cnt] using hn)
  clear hget hat hs hn
  by_cases hk : k = 1
  · subst hk
    go_enter Tryd.func92, Tryd.ntmps92
    go_wp2_with fail
    go_ret
    exact ⟨ret_i (by simp [cntAny]), (Below.refl _ _).alloc (Nat.le_refl _) _⟩
  · have HT := hid (show cntAny (.mk k ts) = cntAnyL ts by simp [cntAny, hk])
    have hk1 : (k == 1) = false := by simpa using hk
    clear hk
    go_enter Tryd.func92, Tryd.ntmps92
    go_wp2_with fail
    go_loopw [3, 12] (fun n i wr => ∃ (j : Nat) (c : Int), j ≤ ts.length ∧ i = .int .i64 j ∧ n = .int .i64 c ∧ c = cntAnyL (ts.take j) ∧ 0 ≤ c ∧ c ≤ 1048576 ∧ Below (w.alloc (Obj.cells #[.int .i64 k, .slice a ts.length cap] 32)).heap.size (w.alloc (Obj.cells #[.int .i64 k, .slice a ts.length cap] 32)) wr) (fun _ i _ => ts.length - (intOf i).toNat)
    case atStart => exact ⟨0, 0, Nat.zero_le _, rfl, rfl, by simp [cntAnyL], by omega, by omega, Below.refl _ _⟩
    case round =>
      obtain ⟨j, c, hj, rfl, rfl, hcc, hc0, hc1, hb⟩ := hrel
      have HC := hid hcc
      clear hcc
      by_cases hlk : j < ts.length
      · obtain ⟨b, o, k1, n1, a1, cap1, f1, rfl, hblt, c0, c1, hat, hf⟩ := HG.out j hlk
        have hbw := alloc1 hb
        have d0 := (hbw.cell (p := ⟨b, o + j * 2, none⟩) hblt).trans c0
        have d1 := (hbw.cell (p := ⟨b, o + j * 2 + 1, none⟩) hblt).trans c1
        clear c0 c1
        have hbd := cntAny_bd ts[j]
        have hbd2 := cntAnyL_bd (ts.take (j + 1))
        have hbd3 := cntL_take ts (j + 1)
        rw [take_succ hlk, cntAnyL_snoc, ← HC.out, ← take_succ hlk, List.length_take] at hbd2
        have hsum : 0 ≤ c + cntAny ts[j] ∧ c + cntAny ts[j] ≤ 1048576 := by have := HN.out; omega
        have HST := hid (show c + cntAny ts[j] = cntAnyL (ts.take (j + 1)) by rw [take_succ hlk, cntAnyL_snoc, ← HC.out])
        have hle := cnt_mem (List.getElem_mem hlk)
        have hle2 : ts[j].cnt ≤ 1048576 := by have := HN.out; omega
        clear hbd2 hbd3 hle
        go_wp2_with fail
        refine (HIH.out _ (List.getElem_mem hlk) _ _ _ (hat.below ?_) hle2).mono ?_
        · exact hbw.alloc (by have := hbw.size; omega) _
        rintro e w1 ⟨rfl, hb1⟩
        have hbb := hb.trans ((alloc1 hb1).mono hb.size)
        clear hb hb1 hat d0 d1 hbw
        generalize cntAny ts[j] = r at *
        go_wp2_with fail
        go_roundw
        case rel => exact ⟨j + 1, c + r, by omega, by go_num, rfl, HST.out, by omega, by omega, hbb⟩
        case measure => simp [intOf]; omega
      · go_wp2_with fail
        go_ret
        exact ⟨ret_i (by rw [HT.out, HC.out, List.take_of_length_le (by omega)]), alloc1 hb⟩

theorem countUnknown_any : ∀ t : Ty, CuC t := Ty.ind countUnknown_of

end Go.Proofs.YtffmpjcjmffdeaaDoor

namespace Go.Proofs.YtffmpjcjmffdeaaDoor
open Go.RowKit

def DqC (t : Ty) : Prop := ∀ (v : Value) (fp : List Nat) (w : World), t.At w v fp → t.cnt ≤ 1048576 →
  Calls Tryd.prog 93 #[v] w fun e w' => e = .returned (.int .i64 (dep t)) ∧ Below w.heap.size w w'

set_option maxHeartbeats 400000 in
theorem depthOfType_of (k : Int) (ts : List Ty) (ih : ∀ t ∈ ts, DqC t) : DqC (.mk k ts) := by
  intro v fp w hat hn
  have HIH := hid ih
  clear ih
  obtain ⟨s, rfl, hs⟩ := Ty.at_mk.1 hat
  obtain ⟨a, cap, rfl, hc, hm, hget⟩ := hs.openA
  have HG := hid hget
  have HN := hid (show ts.length + cntL ts ≤ 1048576 by simpa only [Ty.cnt] using hn)
  clear hget hat hs hn
  have HT := hid (show dep (.mk k ts) = depL ts + 1 by simp [dep])
  go_enter Tryd.func93, Tryd.ntmps93
  go_wp2_with fail
  go_loopw [3, 9] (fun n i wr => ∃ (j : Nat) (c : Int), j ≤ ts.length ∧ i = .int .i64 j ∧ n = .int .i64 c ∧ c = depL (ts.take j) ∧ 0 ≤ c ∧ c ≤ 1048577 ∧ Below (w.alloc (Obj.cells #[.int .i64 k, .slice a ts.length cap] 32)).heap.size (w.alloc (Obj.cells #[.int .i64 k, .slice a ts.length cap] 32)) wr) (fun _ i _ => ts.length - (intOf i).toNat)
  case atStart => exact ⟨0, 0, Nat.zero_le _, rfl, rfl, by simp [depL], by omega, by omega, Below.refl _ _⟩
  case round =>
    obtain ⟨j, c, hj, rfl, rfl, hcc, hc0, hc1, hb⟩ := hrel
    have HC := hid hcc
    clear hcc
    obtain ⟨x0, x1⟩ := box_cells hb
    by_cases hlk : j < ts.length
    · obtain ⟨b, o, k1, n1, a1, cap1, f1, rfl, hblt, c0, c1, hat, hf⟩ := HG.out j hlk
      have hbw := alloc1 hb
      have d0 := (hbw.cell (p := ⟨b, o + j * 2, none⟩) hblt).trans c0
      have d1 := (hbw.cell (p := ⟨b, o + j * 2 + 1, none⟩) hblt).trans c1
      clear c0 c1
      have hbd := dep_bd ts[j]
      have hle := cnt_mem (List.getElem_mem hlk)
      have hle2 : ts[j].cnt ≤ 1048576 := by have := HN.out; omega
      have HST := hid (show max c (dep ts[j]) = depL (ts.take (j + 1)) by rw [take_succ hlk, depL_snoc, ← HC.out])
      clear hle
      go_wp2_with fail
      refine (HIH.out _ (List.getElem_mem hlk) _ _ _ (hat.below ?_) hle2).mono ?_
      · exact hbw.alloc (by have := hbw.size; omega) _
      rintro e w1 ⟨rfl, hb1⟩
      have hbb := hb.trans ((alloc1 hb1).mono hb.size)
      clear hb hb1 hat d0 d1 hbw
      generalize dep ts[j] = r at *
      by_cases hr : c < r
      · go_wp2_with fail
        go_roundw
        case rel => exact ⟨j + 1, r, by omega, by go_num, by first | rfl | (congr 1; omega), by rw [← HST.out]; omega, by omega, by omega, hbb⟩
        case measure => simp [intOf]; omega
      · go_wp2_with fail
        go_roundw
        case rel => exact ⟨j + 1, c, by omega, by go_num, by first | rfl | (congr 1; omega), by rw [← HST.out]; omega, by omega, by omega, hbb⟩
        case measure => simp [intOf]; omega
    · go_wp2_with fail
      go_ret
      exact ⟨ret_i (by rw [HT.out, HC.out, List.take_of_length_le (by omega)]; try omega), alloc1 hb⟩

theorem depthOfType_any : ∀ t : Ty, DqC t := Ty.ind depthOfType_of

end Go.Proofs.YtffmpjcjmffdeaaDoor

namespace Go.Proofs.YtffmpjcjmffdeaaDoor
open Go.RowKit

def depOf (t : Ty) : Int := if vld t then dep t else 0
set_option maxHeartbeats 400000 in
theorem implTypeDepth (t : Ty) (v : Value) (fp : List Nat) (w : World) (hat : t.At w v fp) (hn : t.cnt ≤ 1048576) :
    Calls Tryd.prog 38 #[v] w fun e w' => e = .returned (.int .i64 (depOf t)) ∧ Below w.heap.size w w' := by
  obtain ⟨k, m, a, cap, rfl⟩ := hat.agg
  have hB : Below w.heap.size w (w.alloc (Obj.cells #[.int .i64 k, .slice a m cap] 32)) := (Below.refl _ _).alloc (Nat.le_refl _) _
  have hat1 := hat.below hB
  cases hv : vld t with
  | false =>
    have HT := hid (show depOf t = 0 by simp [depOf, hv])
    have HV := hid hv
    clear hv
    go_enter Tryd.func38, Tryd.ntmps38
    go_wp2_with fail
    refine (implTypeValid_any t _ _ _ hat1).mono ?_
    rintro e w1 ⟨he, hb⟩
    rw [HV.out] at he
    subst he
    go_wp2_with fail
    go_ret
    exact ⟨ret_i HT.out.symm, alloc1 hb⟩
  | true =>
    have HT := hid (show depOf t = dep t by simp [depOf, hv])
    have HV := hid hv
    clear hv
    go_enter Tryd.func38, Tryd.ntmps38
    go_wp2_with fail
    refine (implTypeValid_any t _ _ _ hat1).mono ?_
    rintro e w1 ⟨he, hb⟩
    rw [HV.out] at he
    subst he
    obtain ⟨x0, x1⟩ := box_cells hb
    go_wp2_with fail
    refine (depthOfType_any t _ _ _ (hat1.below hb) hn).mono ?_
    rintro e w2 ⟨rfl, hb2⟩
    have hbb := below_trans (alloc1 hb) hb2
    go_wp2_with fail
    go_ret
    exact ⟨ret_i HT.out.symm, hbb⟩

end Go.Proofs.YtffmpjcjmffdeaaDoor

namespace Go.Proofs.YtffmpjcjmffdeaaDoor
open Go.RowKit

def anyOf (t : Ty) : Int := if vld t then cntAny t else 0

set_option maxHeartbeats 400000 in
theorem implCountAny (t : Ty) (v : Value) (fp : List Nat) (w : World) (hat : t.At w v fp) (hn : t.cnt ≤ 1048576) :
    Calls Tryd.prog 37 #[v] w fun e w' => e = .returned (.int .i64 (anyOf t)) ∧ Below w.heap.size w w' := by
  obtain ⟨k, m, a, cap, rfl⟩ := hat.agg
  have hB : Below w.heap.size w (w.alloc (Obj.cells #[.int .i64 k, .slice a m cap] 32)) := (Below.refl _ _).alloc (Nat.le_refl _) _
  have hat1 := hat.below hB
  cases hv : vld t with
  | false =>
    have HT := hid (show anyOf t = 0 by simp [anyOf, hv])
    have HV := hid hv
    clear hv
    go_enter Tryd.func37, Tryd.ntmps37
    go_wp2_with fail
    refine (implTypeValid_any t _ _ _ hat1).mono ?_
    rintro e w1 ⟨he, hb⟩
    rw [HV.out] at he
    subst he
    go_wp2_with fail
    go_ret
    exact ⟨ret_i HT.out.symm, alloc1 hb⟩
  | true =>
    have HT := hid (show anyOf t = cntAny t by simp [anyOf, hv])
    have HV := hid hv
    clear hv
    go_enter Tryd.func37, Tryd.ntmps37
    go_wp2_with fail
    refine (implTypeValid_any t _ _ _ hat1).mono ?_
    rintro e w1 ⟨he, hb⟩
    rw [HV.out] at he
    subst he
    obtain ⟨x0, x1⟩ := box_cells hb
    go_wp2_with fail
    refine (countUnknown_any t _ _ _ (hat1.below hb) hn).mono ?_
    rintro e w2 ⟨rfl, hb2⟩
    have hbb := below_trans (alloc1 hb) hb2
    go_wp2_with fail
    go_ret
    exact ⟨ret_i HT.out.symm, hbb⟩

end Go.Proofs.YtffmpjcjmffdeaaDoor

/- Maps whose keys are pairs of pointers to types. -/
import Derived.Test.YtppjeeklckdlgaaDoorCx
import Derived.LaidEqlPtr
import Derived.ChangeMaps4
import Derived.Maps.Own
namespace Go.Proofs.YtppjeeklckdlgaaDoor
open Go.RowKit

/-- A block of cells of which nothing is frozen. -/
def Raw (w : World) (k : Nat) : Prop := (∃ C T fz, w.heap[k]? = some (.cells C T fz)) ∧ ∀ o, w.frozen? ⟨k, o, none⟩ = false

theorem same_other {P : Program} (w : World) {a b c d : Nat} (hne : ¬ (a = c ∧ b = d)) (ha : Raw w a) (hb : Raw w c) : (sameAddr ⟨a, b, none⟩ ⟨c, d, none⟩).run P w = .ok false w := by
  obtain ⟨⟨C, T, fz, hC⟩, fa⟩ := ha
  obtain ⟨⟨C', T', fz', hC'⟩, fb⟩ := hb
  by_cases hbl : a = c
  · have hbd : b ≠ d := fun e => hne ⟨hbl, e⟩
    simp [sameAddr, hbl]
    try exact hbd
  · simp [sameAddr, hbl, fa, fb, noView, viewAt, World.shape?, hC, hC', mayBeOne, stringish]

theorem Tryd.underPtr : Tryd.prog.underlying 132 = some (.pointer 32) := Tryd.underlying132

theorem ptr_eq (w : World) (n a b c d : Nat) (ha : Raw w a) (hb : Raw w c) :
    (Op.equalIn (n + 1) 132 (.pointer (some ⟨a, b, none⟩)) (.pointer (some ⟨c, d, none⟩))).run Tryd.prog w = .ok (decide (a = c ∧ b = d)) w := by
  obtain ⟨i0, hi, hz0, hz1, hz2⟩ := info_parts (P := Tryd.prog) (e := 32) (z := .agg #[.int .i64 0, .slice none 0 0]) (size := 2) (bytes := 32) (by kernel_rfl)
  by_cases h : a = c ∧ b = d
  · obtain ⟨rfl, rfl⟩ := h
    simp [Op.equalIn, run_underlying Tryd.underPtr, sizeOf, typeInfo, hi, run_sameAddr_same]
  · simp [Op.equalIn, run_underlying Tryd.underPtr, sizeOf, typeInfo, hi, hz1, same_other w h ha hb, h]

/-- The value of a key. -/
def kv (p q : Nat × Nat) : Value := .agg #[.pointer (some ⟨p.1, p.2, none⟩), .pointer (some ⟨q.1, q.2, none⟩)]

theorem kv_inj {p q p' q' : Nat × Nat} (h : kv p q = kv p' q') : p = p' ∧ q = q' := by
  simp only [kv, Value.agg.injEq, Array.mk.injEq, List.cons.injEq, Value.pointer.injEq, Option.some.injEq, Addr.mk.injEq, and_true] at h
  exact ⟨Prod.ext h.1.1 h.1.2, Prod.ext h.2.1 h.2.2⟩

theorem key_eq (w : World) (p q p' q' : Nat × Nat) (h1 : Raw w p.1) (h2 : Raw w q.1) (h3 : Raw w p'.1) (h4 : Raw w q'.1) :
    (Op.equal 149 (kv p q) (kv p' q')).run Tryd.prog w = .ok (decide (p = p' ∧ q = q')) w := by
  have e1 := ptr_eq w 9998 p.1 p.2 p'.1 p'.2 h1 h3
  have e2 := ptr_eq w 9998 q.1 q.2 q'.1 q'.2 h2 h4
  have hs : Tryd.prog.stoodInHeld 149 = false := by kernel_rfl
  simp only [kv, Op.equal, Op.maxDepth] at *
  rw [Op.equalIn]
  simp [run_underlying Tryd.underlying149, hs, Go.part, isAgg, e1, e2]
  obtain ⟨a, b⟩ := p
  obtain ⟨c, d⟩ := q
  obtain ⟨a', b'⟩ := p'
  obtain ⟨c', d'⟩ := q'
  by_cases g1 : a = a' <;> by_cases g2 : b = b' <;> by_cases g3 : c = c' <;> by_cases g4 : d = d' <;> simp [g1, g2, g3, g4]

/-- What the keys of a map are. -/
def KP (w : World) (es : List MapEntry) : Prop := ∀ e ∈ es, ∃ p q : Nat × Nat, e.key = kv p q ∧ e.val = .bool true ∧ Raw w p.1 ∧ Raw w q.1

theorem find_ask (w : World) (p q : Nat × Nat) (h1 : Raw w p.1) (h2 : Raw w q.1) : ∀ (es : List MapEntry) (i : Nat), KP w es →
    ((Instr.findAsking 149 (kv p q) es i).run Tryd.prog w = .ok none w ∧ ∀ e ∈ es, e.key ≠ kv p q) ∨ ∃ j e, (Instr.findAsking 149 (kv p q) es i).run Tryd.prog w = .ok (some (i + j, e.val)) w ∧ es[j]? = some e ∧ e.key = kv p q
  | [], i, _ => .inl ⟨by simp [Instr.findAsking], by simp⟩
  | e :: es, i, h => by
    obtain ⟨p', q', hk, hv, h3, h4⟩ := h e (by simp)
    have hq := key_eq w p q p' q' h1 h2 h3 h4
    rw [← hk] at hq
    by_cases hpq : p = p' ∧ q = q'
    · obtain ⟨rfl, rfl⟩ := hpq
      refine .inr ⟨0, e, ?_, rfl, hk⟩
      simp [Instr.findAsking, hq]
    · rcases find_ask w p q h1 h2 es (i + 1) (fun e' he => h e' (by simp [he])) with ⟨r1, r2⟩ | ⟨j, e', r1, r2, r3⟩
      · refine .inl ⟨by simp [Instr.findAsking, hq, hpq, r1], fun e' he hke => ?_⟩
        rcases List.mem_cons.1 he with rfl | he
        · rw [hk] at hke
          have := kv_inj hke
          exact hpq ⟨this.1.symm, this.2.symm⟩
        · exact r2 e' he hke
      · refine .inr ⟨j + 1, e', ?_, by simpa using r2, r3⟩
        simp [Instr.findAsking, hq, hpq, r1]
        omega

theorem find_key (w : World) (p q : Nat × Nat) (h1 : Raw w p.1) (h2 : Raw w q.1) (es : List MapEntry) (h : KP w es) :
    ((Instr.findKey 149 (kv p q) es).run Tryd.prog w = .ok none w ∧ ∀ e ∈ es, e.key ≠ kv p q) ∨ ∃ j e, (Instr.findKey 149 (kv p q) es).run Tryd.prog w = .ok (some (j, e.val)) w ∧ es[j]? = some e ∧ e.key = kv p q := by
  cases es with
  | nil => exact .inl ⟨by simp [Instr.findKey, run_underlying Tryd.underlying149, Instr.findNow], by simp⟩
  | cons e es =>
    obtain ⟨p', q', hk, hv, h3, h4⟩ := h e (by simp)
    have hn : Instr.findNow (.struct #[]) (kv p q) (e :: es) 0 = none := by simp [Instr.findNow, Instr.sameNow]
    rcases find_ask w p q h1 h2 (e :: es) 0 h with ⟨r1, r2⟩ | ⟨j, e', r1, r2, r3⟩
    · exact .inl ⟨by simp [Instr.findKey, run_underlying Tryd.underlying149, Instr.findNow, Instr.sameNow, r1], r2⟩
    · exact .inr ⟨j, e', by simpa [Instr.findKey, run_underlying Tryd.underlying149, Instr.findNow, Instr.sameNow] using r1, r2, r3⟩

theorem check_any (w : World) (em : Bool) (p q : Nat × Nat) (n : Nat) : (Instr.checkKey em (n + 1 + 1) 149 (kv p q)).run Tryd.prog w = .ok () w := by
  rw [Instr.checkKey]
  simp [kv, run_underlying Tryd.underlying149, run_underlying Tryd.underPtr, Go.part, isAgg, Instr.checkKey]

theorem check_key (w : World) (em : Bool) (p q : Nat × Nat) : (Instr.checkKey em 10000 149 (kv p q)).run Tryd.prog w = .ok () w := check_any w em p q 9998

theorem look_run (w : World) (M : Nat) (es : Array MapEntry) (clock : Nat) (p q : Nat × Nat) (hM : w.heap[M]? = some (.map es clock)) (h : KP w es.toList) (h1 : Raw w p.1) (h2 : Raw w q.1) :
    ∃ r : Bool, (Instr.lookup 123 (.map (some M)) (kv p q) false).run Tryd.prog w = .ok (.bool r) w ∧ (r = true → ∃ e ∈ es.toList, e.key = kv p q) := by
  have hc := check_key w es.isEmpty p q
  have hz : (zeroValue 4).run Tryd.prog w = .ok (.bool false) w := Tryd.zeroValue4 w
  rcases find_key w p q h1 h2 es.toList h with ⟨r1, r2⟩ | ⟨j, e, r1, r2, r3⟩
  · exact ⟨false, by simp [Instr.lookup, run_underlying Tryd.underlying123, getObj, Sem.run, hM, hc, r1, hz], fun h => by cases h⟩
  · have he := List.mem_of_getElem? r2
    obtain ⟨_, _, _, hv, _⟩ := h e he
    rw [hv] at r1
    exact ⟨true, by simp [Instr.lookup, run_underlying Tryd.underlying123, getObj, Sem.run, hM, hc, r1], fun _ => ⟨e, he, r3⟩⟩

theorem stays_run (w : World) (p q : Nat × Nat) : (Instr.keyThatStays (kv p q) (kv p q)).run Tryd.prog w = .ok (kv p q) w := by
  have : Instr.sameBits 10000 (kv p q) (kv p q) = true := by
    rw [show (10000 : Nat) = 9999 + 1 from rfl]
    simp [kv, Instr.sameBits]
  simp [Instr.keyThatStays, this]

theorem store_run (w : World) (M : Nat) (es : Array MapEntry) (clock : Nat) (p q : Nat × Nat) (hM : w.heap[M]? = some (.map es clock)) (h : KP w es.toList) (h1 : Raw w p.1) (h2 : Raw w q.1) :
    ∃ es' clock', (Instr.mapUpdate 123 (.map (some M)) (kv p q) (.bool true)).run Tryd.prog w = .ok () (Go.ChangeMaps.setBlock w M (.map es' clock')) ∧
      ∀ e ∈ es'.toList, (∃ e0 ∈ es.toList, e.key = e0.key ∧ e.val = e0.val) ∨ e.key = kv p q ∧ e.val = .bool true := by
  have hc := check_key w false p q
  have hst := stays_run w p q
  rcases find_key w p q h1 h2 es.toList h with ⟨r1, r2⟩ | ⟨j, e, r1, r2, r3⟩
  · refine ⟨es.push { key := kv p q, val := .bool true, born := clock }, clock + 1, by simp [Instr.mapUpdate, run_underlying Tryd.underlying123, getObj, setObj, Sem.run, hM, hc, r1, Go.ChangeMaps.setBlock], fun e he => ?_⟩
    rw [Array.toList_push] at he
    rcases List.mem_append.1 he with he | he
    · exact .inl ⟨e, he, rfl, rfl⟩
    · obtain rfl : e = _ := by simpa using he
      exact .inr ⟨rfl, rfl⟩
  · have hje : es[j]? = some e := by simpa using r2
    refine ⟨es.modify j fun e => { e with key := kv p q, val := .bool true }, clock, by simp [Instr.mapUpdate, run_underlying Tryd.underlying123, getObj, setObj, Sem.run, hM, hc, r1, hje, r3, hst, Go.ChangeMaps.setBlock], fun e' he => ?_⟩
    obtain ⟨i, hi⟩ := List.mem_iff_getElem?.1 he
    simp only [Array.getElem?_toList, Array.getElem?_modify] at hi
    by_cases hij : j = i
    · rw [if_pos hij] at hi
      obtain ⟨e1, _, rfl⟩ := Option.map_eq_some_iff.1 hi
      exact .inr ⟨rfl, rfl⟩
    · rw [if_neg hij] at hi
      exact .inl ⟨e', List.mem_of_getElem? (by simpa using hi), rfl, rfl⟩

theorem cx_setBlock (w : World) (M : Nat) (o : Obj) : Cx M w (Go.ChangeMaps.setBlock w M o) :=
  ⟨rfl, rfl, rfl, by simp [Go.ChangeMaps.setBlock], fun k _ hn => by
    simp only [Go.ChangeMaps.setBlock, Array.getElem?_setIfInBounds]
    rw [if_neg (fun e => hn (by rw [e]))]⟩

theorem wpList_store_ptr (w : World) {ops : Array Oper} {rest : List Oper} {o : Oper} {a : Act} {Q : Exit → Act → World → Prop} (hg : o.guard = none) (m x v : Operand) (hop : o.op = Op.mapUpdate 123 m x v)
    (M : Nat) (es : Array MapEntry) (clock : Nat) (p q : Nat × Nat) (hm : a.eval m = .map (some M)) (hx : a.eval x = kv p q) (hv : a.eval v = .bool true) (hM : w.heap[M]? = some (.map es clock)) (h : KP w es.toList) (h1 : Raw w p.1) (h2 : Raw w q.1)
    (hK : ∀ w' es' clock', w'.heap[M]? = some (.map es' clock') → Cx M w w' → (∀ e ∈ es'.toList, (∃ e0 ∈ es.toList, e.key = e0.key ∧ e.val = e0.val) ∨ e.key = kv p q ∧ e.val = .bool true) → wpList Tryd.prog ops Q rest (a.put o.dst undef) w') :
    wpList Tryd.prog ops Q (o :: rest) a w := by
  refine wpList_plain hg fun K' hK' => ?_
  obtain ⟨es', clock', hrun, hes⟩ := store_run w M es clock p q hM h h1 h2
  unfold Oper.wp
  simp [execOp, hop, hm, hx, hv, hrun, Result.andThen]
  refine hK' _ _ (hK _ es' clock' ?_ (cx_setBlock w M _) hes)
  simp [Go.ChangeMaps.setBlock, lt_of_block hM]
end Go.Proofs.YtppjeeklckdlgaaDoor

/- Steps of a region that draws its order, the operation handed over off the region's list. Consistency and precision as plain functions, and the specification's functions. A world in which one block, and new memory, may have changed. Maps whose keys are pairs of pointers to types. The text of a type: the specification's l1Text. A region that draws its order, walked under a condition that holds until one of its operations has come up. TypeSame, of the specification. The specification's ground types. An argument of the laws' type Type, opened: whatever reads as one is a tree. An argument of the laws' type Term, opened: whatever reads as one is a term. -/
import Derived.Deep.RegionHeld3
import Derived.Test.YtjpmlmdbldcbjaaDoorQPkA
import Derived.StillTailTactics
import Derived.LaidEqlPtr
import Derived.ChangeMaps4
import Derived.Maps.Own
import Derived.Lib.SmallJoins
import Derived.Deep.Fields
import Derived.ProofKit
import Derived.OpenShut
import Derived.ChangeOld
namespace Go.Proofs.YtjpmlmdbldcbjaaDoor
open Go.RowKit

theorem at_list {ops : Array Oper} {i : Nat} {o : Oper} (h : ops.toList[i]? = some o) : ops[i]? = some o := by
  rw [← Array.getElem?_toList]
  exact h

theorem regTake {P : Program} {ops : Array Oper} {Q : Exit → Act → World → Prop} {md : Region.Mode} {S : World → Prop} {i : Nat} {oi : Oper} {v : Value} {fuel : Nat} {listed : Array Bool} {a : Act} {w : World} (hi : ops.toList[i]? = some oi)
    (hs : Region.noSelect ops = true) (hf : Region.free md ops listed i = true) (hr : (Region.ready md ops listed).contains i = true)
    (hQ : ∀ c a w, Q (.panic c) (a.put oi.dst v) w → Q (.panic c) a w) (hy : YieldsIf P ops S oi v a) (hS : S w)
    (h : wpAnyH P md ops Q S fuel (listed.setIfInBounds i true) (a.put oi.dst v) w) : wpAnyH P md ops Q S (fuel + 1) listed a w :=
  wpAnyH_take (at_list hi) hs hf hr hQ hy hS h

theorem regCons {P : Program} {ops : Array Oper} {Q : Exit → Act → World → Prop} {md : Region.Mode} {S : World → Prop} {fuel : Nat} {listed : Array Bool} {a : Act} {w : World} {i : Nat} {o : Oper} (ho : ops.toList[i]? = some o)
    (h : ∀ K' : Act → World → Prop, Shut (∀ a w, S w → (S w → wpAnyH P md ops Q S fuel (listed.setIfInBounds i true) a w) → K' a w) → if Region.wanted o (yielded ops a.tmps) = true then Oper.wp P o a w K' Q else K' (a.put o.dst undef) w) : AllReadyH P md ops Q S fuel listed a w [i] :=
  AllReadyH.cons (at_list ho) h AllReadyH.nil

end Go.Proofs.YtjpmlmdbldcbjaaDoor

namespace Go.Proofs.YtjpmlmdbldcbjaaDoor
open Go.RowKit

def L1cC (t : Ty) : Prop := ∀ (u : Ty) (v1 v2 : Value) (f1 f2 : List Nat) (w : World), t.At w v1 f1 → u.At w v2 f2 → wf t → wf u →
  Calls Tryd.prog 78 #[v1, v2] w fun e w' => e = .returned (.bool (cons t u)) ∧ Below w.heap.size w w'

set_option maxHeartbeats 800000 in
set_option maxRecDepth 100000 in
theorem l1Consistent_of (k : Int) (ts : List Ty) (ih : ∀ t ∈ ts, L1cC t) : L1cC (.mk k ts) := by
  intro u v1 v2 f1 f2 w h1 h2 hw1 hw2
  have HIH := hid ih
  clear ih
  obtain ⟨k', us, rfl⟩ := u.shape
  obtain ⟨s1, rfl, hs1⟩ := Ty.at_mk.1 h1
  obtain ⟨s2, rfl, hs2⟩ := Ty.at_mk.1 h2
  obtain ⟨a, cap, rfl, hc, hm, hget⟩ := hs1.openA
  have HG := hid hget
  obtain ⟨a2, cap2, rfl, hc2, hm2, hget2⟩ := hs2.openA
  have HG2 := hid hget2
  have HW1 := hid (wf_mk hw1).2
  have HW2 := hid (wf_mk hw2).2
  have HLEN := hid (show k = k' → ts.length = us.length from fun e => by subst e; exact wf_len hw1 hw2)
  clear hget hget2 hs1 hs2 h1 h2 hw1 hw2
  have hal : Below w.heap.size w ((w.alloc (Obj.cells #[.int .i64 k, .slice a ts.length cap] 31)).alloc (Obj.cells #[.int .i64 k', .slice a2 us.length cap2] 31)) := ((Below.refl _ _).alloc (Nat.le_refl _) _).alloc (by simp) _
  have HAL := hid hal
  clear hal
  by_cases hk : k = 1
  · have HT := hid (show cons (.mk k ts) (.mk k' us) = true by simp [cons, hk])
    have hk0 : (k == 1) = true := by simp [hk]
    clear hk
    go_enter Tryd.func78, Tryd.ntmps78
    go_wp2_with fail
    go_ret
    exact ⟨ret_b HT.out.symm, HAL.out⟩
  have hk0 : (k == 1) = false := by simpa using hk
  have hkn : ¬ k = 1 := hk
  clear hk
  by_cases hk : k' = 1
  · have HT := hid (show cons (.mk k ts) (.mk k' us) = true by simp [cons, hk])
    have hk0' : (k' == 1) = true := by simp [hk]
    clear hk
    go_enter Tryd.func78, Tryd.ntmps78
    go_wp2_with fail
    go_ret
    exact ⟨ret_b HT.out.symm, HAL.out⟩
  have hk0' : (k' == 1) = false := by simpa using hk
  by_cases hkk : k = k'
  · have hlen := HLEN.out hkk
    have HT := hid (show cons (.mk k ts) (.mk k' us) = consL ts us by simp [cons, *])
    subst hkk
    have hle : ts.length ≤ us.length := by omega
    clear hlen HLEN
    go_enter Tryd.func78, Tryd.ntmps78
    go_wp2_with fail
    go_loopw [5] (fun i wr => ∃ j : Nat, j ≤ ts.length ∧ i = .int .i64 j ∧ consL (ts.drop j) (us.drop j) = consL ts us ∧ Below ((w.alloc (Obj.cells #[.int .i64 k, .slice a ts.length cap] 31)).alloc (Obj.cells #[.int .i64 k, .slice a2 us.length cap2] 31)).heap.size ((w.alloc (Obj.cells #[.int .i64 k, .slice a ts.length cap] 31)).alloc (Obj.cells #[.int .i64 k, .slice a2 us.length cap2] 31)) wr) (fun i _ => ts.length - (intOf i).toNat)
    case atStart => exact ⟨0, Nat.zero_le _, rfl, rfl, Below.refl _ _⟩
    case round =>
      obtain ⟨j, hj, rfl, hdr, hb⟩ := hrel
      have HD := hid hdr
      clear hdr
      obtain ⟨x0, x1, x2, x3⟩ := box_cells2 hb
      by_cases hlk : j < ts.length
      · have hlk2 : j < us.length := by omega
        obtain ⟨b, o, k1, n1, a1, cap1, g1, rfl, hblt, c0, c1, hat, hf⟩ := HG.out j hlk
        obtain ⟨b2, o2, k3, n3, a3, cap3, g2, rfl, hblt2, e0, e1, hat2, hf2⟩ := HG2.out j hlk2
        have hbw := alloc2 hb
        have d0 := (hbw.cell (p := ⟨b, o + j * 2, none⟩) hblt).trans c0
        have d1 := (hbw.cell (p := ⟨b, o + j * 2 + 1, none⟩) hblt).trans c1
        have d2 := (hbw.cell (p := ⟨b2, o2 + j * 2, none⟩) hblt2).trans e0
        have d3 := (hbw.cell (p := ⟨b2, o2 + j * 2 + 1, none⟩) hblt2).trans e1
        clear c0 c1 e0 e1
        have HST := hid (consL_step hlk hlk2)
        have HWa := hid (HW1.out _ (List.getElem_mem hlk))
        have HWb := hid (HW2.out _ (List.getElem_mem hlk2))
        go_wp2_with fail
        go_still_tail 10, (by kernel_rfl)
        go_wp2_with fail
        refine (HIH.out _ (List.getElem_mem hlk) _ _ _ _ _ _ (hat.below ?_) (hat2.below ?_) HWa.out HWb.out).mono ?_
        · exact hbw.drew
        · exact hbw.drew
        rintro e w1 ⟨rfl, hb1⟩
        have hbb := hb.trans ((below_trans (below_drew wr) hb1).mono hb.size)
        clear hb hb1 hat hat2 d0 d1 d2 d3 hbw
        generalize cons ts[j] us[j] = r at *
        cases r
        · go_wp2_with fail
          go_ret
          exact ⟨ret_b (by rw [HT.out, ← HD.out, HST.out, Bool.false_and]), alloc2 hbb⟩
        · go_wp2_with fail
          go_roundw
          case rel => exact ⟨j + 1, by omega, by go_num, by rw [← HD.out, HST.out, Bool.true_and], hbb⟩
          case measure => simp [intOf]; omega
      · go_wp2_with fail
        go_ret
        exact ⟨ret_b (by rw [HT.out, ← HD.out, List.drop_of_length_le (by omega)]; simp only [consL]), alloc2 hb⟩
  · have HT := hid (show cons (.mk k ts) (.mk k' us) = false by simp [cons, *])
    have hk1 : (k == k') = false := by simpa using hkk
    have hk2 : (k != k') = true := by simpa using hkk
    clear hkk
    go_enter Tryd.func78, Tryd.ntmps78
    go_wp2_with fail
    go_ret
    exact ⟨ret_b HT.out.symm, HAL.out⟩

theorem l1Consistent_any : ∀ t : Ty, L1cC t := Ty.ind l1Consistent_of

end Go.Proofs.YtjpmlmdbldcbjaaDoor

namespace Go.Proofs.YtjpmlmdbldcbjaaDoor
open Go.RowKit

/-- From w to w' only new blocks and the block U have been written. -/
def Cx (U : Nat) (w w' : World) : Prop := w.grownBy w' (some U)

theorem Cx.refl (U : Nat) (w : World) : Cx U w w := World.grownBy.refl _ _
theorem Cx.of_below {U : Nat} {w w' : World} (h : Below w.heap.size w w') : Cx U w w' := ⟨h.os, h.tape, h.output, h.size, fun k hk _ => h.block k hk⟩
theorem Cx.size {U : Nat} {w w' : World} (h : Cx U w w') : w.heap.size ≤ w'.heap.size := World.grownBy.size h

theorem Cx.trans {U : Nat} {a b c : World} (h : Cx U a b) (k : Cx U b c) : Cx U a c :=
  ⟨k.os.trans h.os, k.tape.trans h.tape, k.output.trans h.output, Nat.le_trans h.size k.size, fun i hi hn => (k.block i (Nat.lt_of_lt_of_le hi h.size) hn).trans (h.block i hi hn)⟩

theorem Cx.alloc {U : Nat} {a b : World} (h : Cx U a b) (o : Obj) : Cx U a (b.alloc o) := h.trans (Cx.of_below ((Below.refl _ _).alloc (Nat.le_refl _) _))

theorem Cx.drew {U : Nat} {a b : World} (h : Cx U a b) : Cx U a b.drew := ⟨h.os, h.tape, h.output, h.size, h.block⟩

theorem Cx.drewN {U : Nat} {a b : World} (h : Cx U a b) (n : Nat) : Cx U a (b.drewN n) := ⟨h.os, h.tape, h.output, h.size, h.block⟩

theorem Cx.setCell {U : Nat} {a b : World} (h : Cx U a b) (o : Nat) (u : Value) : Cx U a (b.setCell ⟨U, o, none⟩ u) :=
  ⟨h.os, h.tape, h.output, by rw [size_setCell]; exact h.size, fun i hi hn => (Below.heap_setCell b ⟨U, o, none⟩ u i (fun e => hn (by rw [e]))).trans (h.block i hi hn)⟩

theorem Cx.blk {U : Nat} {w w' : World} (h : Cx U w w') {M : Nat} {o : Obj} (hM : w.heap[M]? = some o) (hn : M ≠ U) : w'.heap[M]? = some o :=
  (h.block M (lt_of_block hM) (fun e => hn (Option.some.inj e))).trans hM

theorem Cx.cell {U : Nat} {w w' : World} (h : Cx U w w') {b o : Nat} {u : Value} (hc : w.cell? ⟨b, o, none⟩ = some u) (hn : b ≠ U) : w'.cell? ⟨b, o, none⟩ = some u :=
  (World.cell?_of_block (w := w) (a := ⟨b, o, none⟩) (h.block b (World.block_lt_of_cell? _ _ hc) (fun e => hn (Option.some.inj e)))).trans hc

theorem Cx.frozen {U : Nat} {w w' : World} (h : Cx U w w') {b o : Nat} {c : Bool} (hc : w.frozen? ⟨b, o, none⟩ = c) (hlt : b < w.heap.size) (hn : b ≠ U) : w'.frozen? ⟨b, o, none⟩ = c :=
  (World.frozen?_of_block (w := w) (a := ⟨b, o, none⟩) (h.block b hlt (fun e => hn (Option.some.inj e)))).trans hc

theorem Cx.ty {U : Nat} {w w' : World} (h : Cx U w w') {t : Ty} {x : Value} {fp : List Nat} (ht : t.At w x fp) (hn : ∀ b ∈ fp, b ≠ U) : t.At w' x fp :=
  ht.congr fun b hb o => World.cell?_of_block (w := w) (a := ⟨b, o, none⟩) (h.block b (ht.lt b hb) (fun e => hn b hb (Option.some.inj e)))

theorem Cx.fresh {U B : Nat} {w w' : World} (h : Cx U w w') {f : List Nat} (hf : Fresh B w f) (hU : U < B) : Fresh B w' f :=
  ⟨hf.1, fun b hb => ⟨(hf.2 b hb).1, Nat.lt_of_lt_of_le (hf.2 b hb).2.1 h.size, fun o => h.frozen ((hf.2 b hb).2.2 o) (hf.2 b hb).2.1 (by have := (hf.2 b hb).1; omega)⟩⟩

theorem Cx.below {U B : Nat} {w w' : World} (h : Cx U w w') (hB : B ≤ w.heap.size) (hU : B ≤ U) : Below B w w' :=
  ⟨h.os, h.tape, h.output, h.size, fun k hk => h.block k (by omega) (fun e => by have := Option.some.inj e; omega)⟩

end Go.Proofs.YtjpmlmdbldcbjaaDoor

namespace Go.Proofs.YtjpmlmdbldcbjaaDoor
open Go.RowKit

/-- A block of cells of which nothing is frozen. -/
def Raw (w : World) (k : Nat) : Prop := (∃ C T fz, w.heap[k]? = some (.cells C T fz)) ∧ ∀ o, w.frozen? ⟨k, o, none⟩ = false

theorem same_other {P : Program} (w : World) {a b c d : Nat} (hne : ¬ (a = c ∧ b = d)) (ha : Raw w a) (hb : Raw w c) : (sameAddr ⟨a, b, none⟩ ⟨c, d, none⟩).run P w = .ok false w := by
  obtain ⟨⟨C, T, fz, hC⟩, fa⟩ := ha
  obtain ⟨⟨C', T', fz', hC'⟩, fb⟩ := hb
  by_cases hbl : a = c
  · have hbd : b ≠ d := fun e => hne ⟨hbl, e⟩
    simp [sameAddr, hbl]
    try exact hbd
  · simp [sameAddr, hbl, fa, fb, noView, viewAt, World.shape?, hC, hC', mayBeOne, stringish]

theorem Tryd.underPtr : Tryd.prog.underlying 80 = some (.pointer 31) := Tryd.underlying80

theorem ptr_eq (w : World) (n a b c d : Nat) (ha : Raw w a) (hb : Raw w c) :
    (Op.equalIn (n + 1) 80 (.pointer (some ⟨a, b, none⟩)) (.pointer (some ⟨c, d, none⟩))).run Tryd.prog w = .ok (decide (a = c ∧ b = d)) w := by
  obtain ⟨i0, hi, hz0, hz1, hz2⟩ := info_parts (P := Tryd.prog) (e := 31) (z := .agg #[.int .i64 0, .slice none 0 0]) (size := 2) (bytes := 32) (by kernel_rfl)
  by_cases h : a = c ∧ b = d
  · obtain ⟨rfl, rfl⟩ := h
    simp [Op.equalIn, run_underlying Tryd.underPtr, sizeOf, typeInfo, hi, run_sameAddr_same]
  · simp [Op.equalIn, run_underlying Tryd.underPtr, sizeOf, typeInfo, hi, hz1, same_other w h ha hb, h]

/-- The value of a key. -/
def kv (p q : Nat × Nat) : Value := .agg #[.pointer (some ⟨p.1, p.2, none⟩), .pointer (some ⟨q.1, q.2, none⟩)]

theorem kv_inj {p q p' q' : Nat × Nat} (h : kv p q = kv p' q') : p = p' ∧ q = q' := by
  simp only [kv, Value.agg.injEq, Array.mk.injEq, List.cons.injEq, Value.pointer.injEq, Option.some.injEq, Addr.mk.injEq, and_true] at h
  exact ⟨Prod.ext h.1.1 h.1.2, Prod.ext h.2.1 h.2.2⟩

theorem key_eq (w : World) (p q p' q' : Nat × Nat) (h1 : Raw w p.1) (h2 : Raw w q.1) (h3 : Raw w p'.1) (h4 : Raw w q'.1) :
    (Op.equal 85 (kv p q) (kv p' q')).run Tryd.prog w = .ok (decide (p = p' ∧ q = q')) w := by
  have e1 := ptr_eq w 9998 p.1 p.2 p'.1 p'.2 h1 h3
  have e2 := ptr_eq w 9998 q.1 q.2 q'.1 q'.2 h2 h4
  have hs : Tryd.prog.stoodInHeld 85 = false := by kernel_rfl
  simp only [kv, Op.equal, Op.maxDepth] at *
  rw [Op.equalIn]
  simp [run_underlying Tryd.underlying85, hs, Go.part, isAgg, e1, e2]
  obtain ⟨a, b⟩ := p
  obtain ⟨c, d⟩ := q
  obtain ⟨a', b'⟩ := p'
  obtain ⟨c', d'⟩ := q'
  by_cases g1 : a = a' <;> by_cases g2 : b = b' <;> by_cases g3 : c = c' <;> by_cases g4 : d = d' <;> simp [g1, g2, g3, g4]

/-- What the keys of a map are. -/
def KP (w : World) (es : List MapEntry) : Prop := ∀ e ∈ es, ∃ p q : Nat × Nat, e.key = kv p q ∧ e.val = .bool true ∧ Raw w p.1 ∧ Raw w q.1

theorem find_ask (w : World) (p q : Nat × Nat) (h1 : Raw w p.1) (h2 : Raw w q.1) : ∀ (es : List MapEntry) (i : Nat), KP w es →
    ((Instr.findAsking 85 (kv p q) es i).run Tryd.prog w = .ok none w ∧ ∀ e ∈ es, e.key ≠ kv p q) ∨ ∃ j e, (Instr.findAsking 85 (kv p q) es i).run Tryd.prog w = .ok (some (i + j, e.val)) w ∧ es[j]? = some e ∧ e.key = kv p q
  | [], i, _ => .inl ⟨by simp [Instr.findAsking], by simp⟩
  | e :: es, i, h => by
    obtain ⟨p', q', hk, hv, h3, h4⟩ := h e (by simp)
    have hq := key_eq w p q p' q' h1 h2 h3 h4
    rw [← hk] at hq
    by_cases hpq : p = p' ∧ q = q'
    · obtain ⟨rfl, rfl⟩ := hpq
      refine .inr ⟨0, e, ?_, rfl, hk⟩
      simp [Instr.findAsking, hq]
    · rcases find_ask w p q h1 h2 es (i + 1) (fun e' he => h e' (by simp [he])) with ⟨r1, r2⟩ | ⟨j, e', r1, r2, r3⟩
      · refine .inl ⟨by simp [Instr.findAsking, hq, hpq, r1], fun e' he hke => ?_⟩
        rcases List.mem_cons.1 he with rfl | he
        · rw [hk] at hke
          have := kv_inj hke
          exact hpq ⟨this.1.symm, this.2.symm⟩
        · exact r2 e' he hke
      · refine .inr ⟨j + 1, e', ?_, by simpa using r2, r3⟩
        simp [Instr.findAsking, hq, hpq, r1]
        omega

theorem find_key (w : World) (p q : Nat × Nat) (h1 : Raw w p.1) (h2 : Raw w q.1) (es : List MapEntry) (h : KP w es) :
    ((Instr.findKey 85 (kv p q) es).run Tryd.prog w = .ok none w ∧ ∀ e ∈ es, e.key ≠ kv p q) ∨ ∃ j e, (Instr.findKey 85 (kv p q) es).run Tryd.prog w = .ok (some (j, e.val)) w ∧ es[j]? = some e ∧ e.key = kv p q := by
  cases es with
  | nil => exact .inl ⟨by simp [Instr.findKey, run_underlying Tryd.underlying85, Instr.findNow], by simp⟩
  | cons e es =>
    obtain ⟨p', q', hk, hv, h3, h4⟩ := h e (by simp)
    have hn : Instr.findNow (.struct #[]) (kv p q) (e :: es) 0 = none := by simp [Instr.findNow, Instr.sameNow]
    rcases find_ask w p q h1 h2 (e :: es) 0 h with ⟨r1, r2⟩ | ⟨j, e', r1, r2, r3⟩
    · exact .inl ⟨by simp [Instr.findKey, run_underlying Tryd.underlying85, Instr.findNow, Instr.sameNow, r1], r2⟩
    · exact .inr ⟨j, e', by simpa [Instr.findKey, run_underlying Tryd.underlying85, Instr.findNow, Instr.sameNow] using r1, r2, r3⟩

theorem check_any (w : World) (em : Bool) (p q : Nat × Nat) (n : Nat) : (Instr.checkKey em (n + 1 + 1) 85 (kv p q)).run Tryd.prog w = .ok () w := by
  rw [Instr.checkKey]
  simp [kv, run_underlying Tryd.underlying85, run_underlying Tryd.underPtr, Go.part, isAgg, Instr.checkKey]

theorem check_key (w : World) (em : Bool) (p q : Nat × Nat) : (Instr.checkKey em 10000 85 (kv p q)).run Tryd.prog w = .ok () w := check_any w em p q 9998

theorem look_run (w : World) (M : Nat) (es : Array MapEntry) (clock : Nat) (p q : Nat × Nat) (hM : w.heap[M]? = some (.map es clock)) (h : KP w es.toList) (h1 : Raw w p.1) (h2 : Raw w q.1) :
    ∃ r : Bool, (Instr.lookup 74 (.map (some M)) (kv p q) false).run Tryd.prog w = .ok (.bool r) w ∧ (r = true → ∃ e ∈ es.toList, e.key = kv p q) := by
  have hc := check_key w es.isEmpty p q
  have hz : (zeroValue 4).run Tryd.prog w = .ok (.bool false) w := Tryd.zeroValue4 w
  rcases find_key w p q h1 h2 es.toList h with ⟨r1, r2⟩ | ⟨j, e, r1, r2, r3⟩
  · exact ⟨false, by simp [Instr.lookup, run_underlying Tryd.underlying74, getObj, Sem.run, hM, hc, r1, hz], fun h => by cases h⟩
  · have he := List.mem_of_getElem? r2
    obtain ⟨_, _, _, hv, _⟩ := h e he
    rw [hv] at r1
    exact ⟨true, by simp [Instr.lookup, run_underlying Tryd.underlying74, getObj, Sem.run, hM, hc, r1], fun _ => ⟨e, he, r3⟩⟩

theorem stays_run (w : World) (p q : Nat × Nat) : (Instr.keyThatStays (kv p q) (kv p q)).run Tryd.prog w = .ok (kv p q) w := by
  have : Instr.sameBits 10000 (kv p q) (kv p q) = true := by
    rw [show (10000 : Nat) = 9999 + 1 from rfl]
    simp [kv, Instr.sameBits]
  simp [Instr.keyThatStays, this]

theorem store_run (w : World) (M : Nat) (es : Array MapEntry) (clock : Nat) (p q : Nat × Nat) (hM : w.heap[M]? = some (.map es clock)) (h : KP w es.toList) (h1 : Raw w p.1) (h2 : Raw w q.1) :
    ∃ es' clock', (Instr.mapUpdate 74 (.map (some M)) (kv p q) (.bool true)).run Tryd.prog w = .ok () (Go.ChangeMaps.setBlock w M (.map es' clock')) ∧
      ∀ e ∈ es'.toList, (∃ e0 ∈ es.toList, e.key = e0.key ∧ e.val = e0.val) ∨ e.key = kv p q ∧ e.val = .bool true := by
  have hc := check_key w false p q
  have hst := stays_run w p q
  rcases find_key w p q h1 h2 es.toList h with ⟨r1, r2⟩ | ⟨j, e, r1, r2, r3⟩
  · refine ⟨es.push { key := kv p q, val := .bool true, born := clock }, clock + 1, by simp [Instr.mapUpdate, run_underlying Tryd.underlying74, getObj, setObj, Sem.run, hM, hc, r1, Go.ChangeMaps.setBlock], fun e he => ?_⟩
    rw [Array.toList_push] at he
    rcases List.mem_append.1 he with he | he
    · exact .inl ⟨e, he, rfl, rfl⟩
    · obtain rfl : e = _ := by simpa using he
      exact .inr ⟨rfl, rfl⟩
  · have hje : es[j]? = some e := by simpa using r2
    refine ⟨es.modify j fun e => { e with key := kv p q, val := .bool true }, clock, by simp [Instr.mapUpdate, run_underlying Tryd.underlying74, getObj, setObj, Sem.run, hM, hc, r1, hje, r3, hst, Go.ChangeMaps.setBlock], fun e' he => ?_⟩
    obtain ⟨i, hi⟩ := List.mem_iff_getElem?.1 he
    simp only [Array.getElem?_toList, Array.getElem?_modify] at hi
    by_cases hij : j = i
    · rw [if_pos hij] at hi
      obtain ⟨e1, _, rfl⟩ := Option.map_eq_some_iff.1 hi
      exact .inr ⟨rfl, rfl⟩
    · rw [if_neg hij] at hi
      exact .inl ⟨e', List.mem_of_getElem? (by simpa using hi), rfl, rfl⟩

theorem cx_setBlock (w : World) (M : Nat) (o : Obj) : Cx M w (Go.ChangeMaps.setBlock w M o) :=
  ⟨rfl, rfl, rfl, by simp [Go.ChangeMaps.setBlock], fun k _ hn => by
    simp only [Go.ChangeMaps.setBlock, Array.getElem?_setIfInBounds]
    rw [if_neg (fun e => hn (by rw [e]))]⟩

theorem wpList_store_ptr (w : World) {ops : Array Oper} {rest : List Oper} {o : Oper} {a : Act} {Q : Exit → Act → World → Prop} (hg : o.guard = none) (m x v : Operand) (hop : o.op = Op.mapUpdate 74 m x v)
    (M : Nat) (es : Array MapEntry) (clock : Nat) (p q : Nat × Nat) (hm : a.eval m = .map (some M)) (hx : a.eval x = kv p q) (hv : a.eval v = .bool true) (hM : w.heap[M]? = some (.map es clock)) (h : KP w es.toList) (h1 : Raw w p.1) (h2 : Raw w q.1)
    (hK : ∀ w' es' clock', w'.heap[M]? = some (.map es' clock') → Cx M w w' → (∀ e ∈ es'.toList, (∃ e0 ∈ es.toList, e.key = e0.key ∧ e.val = e0.val) ∨ e.key = kv p q ∧ e.val = .bool true) → wpList Tryd.prog ops Q rest (a.put o.dst undef) w') :
    wpList Tryd.prog ops Q (o :: rest) a w := by
  refine wpList_plain hg fun K' hK' => ?_
  obtain ⟨es', clock', hrun, hes⟩ := store_run w M es clock p q hM h h1 h2
  unfold Oper.wp
  simp [execOp, hop, hm, hx, hv, hrun, Result.andThen]
  refine hK' _ _ (hK _ es' clock' ?_ (cx_setBlock w M _) hes)
  simp [Go.ChangeMaps.setBlock, lt_of_block hM]
end Go.Proofs.YtjpmlmdbldcbjaaDoor

namespace Go.Proofs.YtjpmlmdbldcbjaaDoor
open Go.RowKit

/-- A well-formed tree is a leaf or has two well-formed operands. -/
theorem shp_cases {d : Nat} {k : Int} {ts : List Ty} (h : shp (d + 1) (.mk k ts) = true) :
    (ts = [] ∧ (k = 1 ∨ k = 2 ∨ k = 3)) ∨ ∃ a b, ts = [a, b] ∧ (k = 4 ∨ k = 5) ∧ shp d a = true ∧ shp d b = true := by
  simp only [shp, Bool.and_eq_true, beq_iff_eq] at h
  obtain ⟨h1, h2⟩ := h
  unfold kidsOf at h1
  by_cases hk : k = 1 ∨ k = 2 ∨ k = 3
  · rw [if_pos hk] at h1
    exact .inl ⟨List.length_eq_zero_iff.1 (by omega), hk⟩
  · rw [if_neg hk] at h1
    by_cases hk2 : k = 4 ∨ k = 5
    · rw [if_pos hk2] at h1
      match ts, h1 with
      | [a, b], _ =>
        simp only [List.all_cons, List.all_nil, Bool.and_true, Bool.and_eq_true] at h2
        exact .inr ⟨a, b, rfl, hk2, h2.1, h2.2⟩
    · rw [if_neg hk2] at h1
      omega

/-- The parts of a pair's reading. -/
theorem SlAt.two {w : World} {x y : Ty} {s : Value} {fp : List Nat} (h : SlAt w [x, y] s fp) :
    ∃ b o cap k1 n1 a1 c1 k2 n2 a2 c2 f1 f2, s = .slice (some ⟨b, o, none⟩) 2 cap ∧ b < w.heap.size ∧ w.cell? ⟨b, o, none⟩ = some (.int .i64 k1) ∧ w.cell? ⟨b, o + 1, none⟩ = some (.slice a1 n1 c1) ∧ w.cell? ⟨b, o + 2, none⟩ = some (.int .i64 k2) ∧ w.cell? ⟨b, o + 2 + 1, none⟩ = some (.slice a2 n2 c2) ∧
      x.At w (.agg #[.int .i64 k1, .slice a1 n1 c1]) f1 ∧ y.At w (.agg #[.int .i64 k2, .slice a2 n2 c2]) f2 ∧ fp = b :: (f1 ++ f2) ∧ 2 ≤ cap := by
  rcases h with ⟨h, _⟩ | ⟨b, o, cap, f, rfl, _, hc, _, hl, rfl⟩
  · cases h
  · obtain ⟨v0, v1, f1, f2, c0, c1, hx, hl, rfl⟩ := hl
    obtain ⟨u0, u1, g1, g2, d0, d1, hy, hl, rfl⟩ := hl
    cases hl
    obtain ⟨k1, n1, a1, cap1, hv⟩ := hx.agg
    obtain ⟨k2, n2, a2, cap2, hu⟩ := hy.agg
    simp only [Value.agg.injEq, Array.mk.injEq, List.cons.injEq, and_true] at hv hu
    obtain ⟨rfl, rfl⟩ := hv
    obtain ⟨rfl, rfl⟩ := hu
    exact ⟨b, o, cap, k1, n1, a1, cap1, k2, n2, a2, cap2, f1, g1, rfl, World.block_lt_of_cell? _ _ c0, c0, c1, d0, d1, hx, hy, by simp, hc⟩

end Go.Proofs.YtjpmlmdbldcbjaaDoor

namespace Go.Proofs.YtjpmlmdbldcbjaaDoor
open Go.RowKit

section
variable {P : Program} {ops : Array Oper} {Q : Exit → Act → World → Prop} {md : Region.Mode} {s : Nat} {S0 S1 : World → Prop}

/-- S1 holds; and S0, as long as operation s has not come up. -/
def SLx (s : Nat) (S0 S1 : World → Prop) (l : Array Bool) (w : World) : Prop := S1 w ∧ (l.getD s true = false → S0 w)

theorem SLx_set {l : Array Bool} {i : Nat} (h : i ≠ s) (w : World) : SLx s S0 S1 (l.setIfInBounds i true) w ↔ SLx s S0 S1 l w := by
  unfold SLx
  have e : (l.setIfInBounds i true).getD s true = l.getD s true := by
    simp only [Array.getD_eq_getD_getElem?, Array.getElem?_setIfInBounds_ne h]
  rw [e]

/-- Whatever order is picked from here on; behind each operation the condition of that moment holds. -/
def wpAnyL (P : Program) (md : Region.Mode) (ops : Array Oper) (Q : Exit → Act → World → Prop) (s : Nat) (S0 S1 : World → Prop) : Nat → Array Bool → Act → World → Prop
  | 0, listed, a, w => Region.ready md ops listed = [] ∧ Q .normal a w
  | fuel + 1, listed, a, w =>
    (Region.ready md ops listed = [] → Q .normal a w) ∧
    ∀ i ∈ Region.ready md ops listed, wpOp P ops Q i (fun a' w' => SLx s S0 S1 (listed.setIfInBounds i true) w' ∧ wpAnyL P md ops Q s S0 S1 fuel (listed.setIfInBounds i true) a' w') a w

theorem wpAny_of_L : ∀ (fuel : Nat) (listed : Array Bool) (a : Act) (w : World), wpAnyL P md ops Q s S0 S1 fuel listed a w → wpAny P md ops Q fuel listed a w
  | 0, _, _, _, h => h
  | fuel + 1, _, _, _, h => ⟨h.1, fun i hi => wpOp_mono (fun a' w' h' => wpAny_of_L fuel _ a' w' h'.2) (h.2 i hi)⟩

theorem wpAnyL_first (flag : Bool) {i : Nat} {oi : Oper} {v : Value} (hi : ops[i]? = some oi) (hsel : ∀ (j : Nat) (o : Oper) cs b, ops[j]? = some o → o.op ≠ .select cs b)
    (hQ : ∀ c a w, Q (.panic c) (a.put oi.dst v) w → Q (.panic c) a w) (his : i ≠ s) (hwait : flag = true → ∃ os e, ops[s]? = some os ∧ e ∈ os.after ∧ Region.binds md e = true ∧ e.on = i) :
    ∀ (fuel : Nat) (listed : Array Bool) (a : Act) (w : World),
      (∀ j oj, ops[j]? = some oj → j ≠ i → listed.getD j true = false → (∀ e ∈ oj.after, Region.binds md e = true → e.on ≠ i) → oi.apart ops oj = true) →
      i ∈ Region.ready md ops listed → YieldsIf P ops (fun w => S1 w ∧ (flag = true → S0 w)) oi v a → (flag = true → listed.getD s true = false) → SLx s S0 S1 listed w →
      wpAnyL P md ops Q s S0 S1 fuel (listed.setIfInBounds i true) (a.put oi.dst v) w → wpAnyL P md ops Q s S0 S1 (fuel + 1) listed a w := by
  intro fuel
  induction fuel with
  | zero =>
    intro listed a w _ hr hy hfl hS H
    refine ⟨fun h => (by rw [h] at hr; cases hr), fun j hj => ?_⟩
    by_cases hji : j = i
    · subst hji; exact hy.wpOp hi ⟨hS.1, fun h => hS.2 (hfl h)⟩ ⟨(SLx_set his w).2 hS, H⟩
    · have := ready_mono hj hji
      rw [H.1] at this
      cases this
  | succ fuel ih =>
    intro listed a w hfree hr hy hfl hS H
    refine ⟨fun h => (by rw [h] at hr; cases hr), fun j hj => ?_⟩
    by_cases hji : j = i
    · subst hji; exact hy.wpOp hi ⟨hS.1, fun h => hS.2 (hfl h)⟩ ⟨(SLx_set his w).2 hS, H⟩
    · have h1 := H.2 j (ready_mono hj hji)
      obtain ⟨hjun, oj, hoj, hall⟩ := mem_ready.1 hj
      have hnot : ∀ e ∈ oj.after, Region.binds md e = true → e.on ≠ i := fun e he hb heq => by
        have h1 := hall e he hb
        have h0 := (mem_ready.1 hr).1
        rw [heq] at h1
        rcases Nat.lt_or_ge i listed.size with h' | h'
        · simp [h'] at h0 h1; rw [h0] at h1; cases h1
        · simp [Array.getElem?_eq_none h'] at h1
      have hjs : flag = true → j ≠ s := fun hf e => by
        obtain ⟨os, e', hos, he', hb, hon⟩ := hwait hf
        subst e
        rw [hos] at hoj
        cases hoj
        exact hnot e' he' hb hon
      have h2 := wpOp_putIf hoj (hfree j oj hoj hji hjun hnot) (fun cs b => hsel i oi cs b hi) (fun cs b => hsel j oj cs b hoj) hQ hy h1
      have hfree' : ∀ k ok, ops[k]? = some ok → k ≠ i → (listed.setIfInBounds j true).getD k true = false →
          (∀ e ∈ ok.after, Region.binds md e = true → e.on ≠ i) → oi.apart ops ok = true := fun k ok hk hki hun hno => by
        refine hfree k ok hk hki ?_ hno
        by_cases hjk : j = k
        · subst hjk; exact hjun
        · rw [getD_set_ne true hjk] at hun; exact hun
      have hfl' : flag = true → (listed.setIfInBounds j true).getD s true = false := fun hf => by rw [getD_set_ne true (hjs hf)]; exact hfl hf
      refine wpOp_mono (fun a' w' h3 => ?_) h2
      have hS' : SLx s S0 S1 (listed.setIfInBounds j true) w' := by
        have := h3.2.1
        rw [Array.setIfInBounds_comm _ _ (Ne.symm hji)] at this
        exact (SLx_set his w').1 this
      refine ⟨hS', ih (listed.setIfInBounds j true) a' w' hfree' (ready_mono hr (Ne.symm hji)) h3.1 hfl' hS' ?_⟩
      rw [Array.setIfInBounds_comm _ _ hji]
      exact h3.2.2

/-- Taken first under S0 too: s waits for it, and has not come up. -/
theorem takeL0 {i : Nat} {oi os : Oper} {v : Value} {fuel : Nat} {listed : Array Bool} {a : Act} {w : World} (hi : ops.toList[i]? = some oi) (hos : ops.toList[s]? = some os)
    (hs : Region.noSelect ops = true) (hf : Region.free md ops listed i = true) (hr : (Region.ready md ops listed).contains i = true) (his : i ≠ s)
    (hw : (os.after.toList.any fun e => Region.binds md e && e.on == i) = true) (hl : listed.getD s true = false)
    (hQ : ∀ c a w, Q (.panic c) (a.put oi.dst v) w → Q (.panic c) a w) (hy : YieldsIf P ops (fun w => S1 w ∧ S0 w) oi v a) (hS : SLx s S0 S1 listed w)
    (h : wpAnyL P md ops Q s S0 S1 fuel (listed.setIfInBounds i true) (a.put oi.dst v) w) : wpAnyL P md ops Q s S0 S1 (fuel + 1) listed a w := by
  have hi' : ops[i]? = some oi := by rw [← Array.getElem?_toList]; exact hi
  have hos' : ops[s]? = some os := by rw [← Array.getElem?_toList]; exact hos
  refine wpAnyL_first true hi' (Region.noSelect_spec hs) hQ his (fun _ => ?_) fuel listed a w (Region.free_spec hi' hf) (by simpa using hr) ?_ (fun _ => hl) hS h
  · obtain ⟨e, he, h2⟩ := List.any_eq_true.1 hw
    rw [Bool.and_eq_true] at h2
    exact ⟨os, e, hos', by simpa using he, h2.1, by simpa using h2.2⟩
  · rcases hy with ⟨h1, h2⟩ | h
    · exact .inl ⟨h1, fun w hw => h2 w ⟨hw.1, hw.2 rfl⟩⟩
    · exact .inr h

def AllReadyL (P : Program) (md : Region.Mode) (ops : Array Oper) (Q : Exit → Act → World → Prop) (s : Nat) (S0 S1 : World → Prop) (fuel : Nat) (listed : Array Bool) (a : Act) (w : World) (rs : List Nat) : Prop :=
  ∀ i ∈ rs, wpOp P ops Q i (fun a' w' => SLx s S0 S1 (listed.setIfInBounds i true) w' ∧ wpAnyL P md ops Q s S0 S1 fuel (listed.setIfInBounds i true) a' w') a w

theorem AllReadyL.nil {fuel : Nat} {listed : Array Bool} {a : Act} {w : World} : AllReadyL P md ops Q s S0 S1 fuel listed a w [] := fun _ h => by cases h

theorem AllReadyL.cons {fuel : Nat} {listed : Array Bool} {a : Act} {w : World} {i : Nat} {o : Oper} {rs : List Nat} (ho : ops.toList[i]? = some o)
    (h : ∀ K' : Act → World → Prop, Shut (∀ a w, SLx s S0 S1 (listed.setIfInBounds i true) w → (SLx s S0 S1 (listed.setIfInBounds i true) w → wpAnyL P md ops Q s S0 S1 fuel (listed.setIfInBounds i true) a w) → K' a w) → if Region.wanted o (yielded ops a.tmps) = true then Oper.wp P o a w K' Q else K' (a.put o.dst undef) w)
    (hs : AllReadyL P md ops Q s S0 S1 fuel listed a w rs) : AllReadyL P md ops Q s S0 S1 fuel listed a w (i :: rs) := fun j hj => by
  have ho' : ops[i]? = some o := by rw [← Array.getElem?_toList]; exact ho
  rcases List.mem_cons.1 hj with rfl | hj
  · exact wpOp_step ho' (fun K' hK => h K' (fun a w hS hW => hK a w ⟨hS, hW hS⟩))
  · exact hs j hj

theorem readyL {rs : List Nat} {fuel : Nat} {listed : Array Bool} {a : Act} {w : World} (hr : Region.ready md ops listed = rs) (hne : rs ≠ [])
    (h : AllReadyL P md ops Q s S0 S1 fuel listed a w rs) : wpAnyL P md ops Q s S0 S1 (fuel + 1) listed a w :=
  ⟨fun h0 => absurd (hr ▸ h0) hne, hr ▸ h⟩

theorem doneL {listed : Array Bool} {a : Act} {w : World} (hr : Region.ready md ops listed = []) (h : Q .normal a w) : ∀ fuel, wpAnyL P md ops Q s S0 S1 fuel listed a w
  | 0 => ⟨hr, h⟩
  | _ + 1 => ⟨fun _ => h, by rw [hr]; simp⟩

theorem regionL {id : Nat} {a : Act} {w : World} (hm : P.follows .mixedOrders = true) (h0 : S0 w.drew) (h1 : S1 w.drew)
    (h : SLx s S0 S1 (Array.replicate ops.size false) w.drew → wpAnyL P .any ops Q s S0 S1 ops.size (Array.replicate ops.size false) a w.drew) : (Code.region id ops true).wp P Q a w :=
  wp_region_any hm (wpAny_of_L _ _ _ _ (h ⟨h1, fun _ => h0⟩))
end
end Go.Proofs.YtjpmlmdbldcbjaaDoor

namespace Go.Proofs.YtjpmlmdbldcbjaaDoor
open Go.RowKit

def TsC (t : Ty) : Prop := ∀ (u : Ty) (v1 v2 : Value) (f1 f2 : List Nat) (w : World), t.At w v1 f1 → u.At w v2 f2 →
  Calls Tryd.prog 47 #[v1, v2] w fun e w' => e = .returned (.bool (tyEq t u)) ∧ Below w.heap.size w w'

set_option maxHeartbeats 800000 in
set_option maxRecDepth 100000 in
theorem specTypeSame_of (k : Int) (ts : List Ty) (ih : ∀ t ∈ ts, TsC t) : TsC (.mk k ts) := by
  intro u v1 v2 f1 f2 w h1 h2
  have HIH := hid ih
  clear ih
  obtain ⟨k', us, rfl⟩ := u.shape
  obtain ⟨s1, rfl, hs1⟩ := Ty.at_mk.1 h1
  obtain ⟨s2, rfl, hs2⟩ := Ty.at_mk.1 h2
  obtain ⟨a, cap, rfl, hc, hm, hget⟩ := hs1.openA
  have HG := hid hget
  obtain ⟨a2, cap2, rfl, hc2, hm2, hget2⟩ := hs2.openA
  have HG2 := hid hget2
  clear hget hget2 hs1 hs2 h1 h2
  have hal : Below w.heap.size w ((w.alloc (Obj.cells #[.int .i64 k, .slice a ts.length cap] 31)).alloc (Obj.cells #[.int .i64 k', .slice a2 us.length cap2] 31)) := ((Below.refl _ _).alloc (Nat.le_refl _) _).alloc (by simp) _
  have HAL := hid hal
  clear hal
  by_cases hkk : k = k'
  case neg =>
    have HT := hid (show tyEq (.mk k ts) (.mk k' us) = false by simp [tyEq, hkk])
    have hk1 : (k == k') = false := by simpa using hkk
    have hk2 : (k != k') = true := by simpa using hkk
    clear hkk
    go_enter Tryd.func47, Tryd.ntmps47
    go_wp2_with fail
    go_ret
    exact ⟨ret_b HT.out.symm, HAL.out⟩
  subst hkk
  by_cases hl : ts.length = us.length
  case neg =>
    have HT := hid (show tyEq (.mk k ts) (.mk k us) = false by simp [tyEq, tyEqL_len hl])
    have hl1 : ((ts.length : Int) != (us.length : Int)) = true := by simp; omega
    have hl2 : ((ts.length : Int) == (us.length : Int)) = false := by simp; omega
    clear hl
    go_enter Tryd.func47, Tryd.ntmps47
    go_wp2_with fail
    go_ret
    exact ⟨ret_b HT.out.symm, HAL.out⟩
  have HT := hid (show tyEq (.mk k ts) (.mk k us) = tyEqL ts us by simp [tyEq])
  have hl1 : ((ts.length : Int) != (us.length : Int)) = false := by simp; omega
  have hl2 : ((ts.length : Int) == (us.length : Int)) = true := by simp; omega
  have HL := hid hl
  clear hl
  go_enter Tryd.func47, Tryd.ntmps47
  go_wp2_with fail
  go_loopw [5] (fun i wr => ∃ j : Nat, j ≤ ts.length ∧ i = .int .i64 j ∧ tyEqL (ts.drop j) (us.drop j) = tyEqL ts us ∧ Below ((w.alloc (Obj.cells #[.int .i64 k, .slice a ts.length cap] 31)).alloc (Obj.cells #[.int .i64 k, .slice a2 us.length cap2] 31)).heap.size ((w.alloc (Obj.cells #[.int .i64 k, .slice a ts.length cap] 31)).alloc (Obj.cells #[.int .i64 k, .slice a2 us.length cap2] 31)) wr) (fun i _ => ts.length - (intOf i).toNat)
  case atStart => exact ⟨0, Nat.zero_le _, rfl, rfl, Below.refl _ _⟩
  case round =>
    obtain ⟨j, hj, rfl, hdr, hb⟩ := hrel
    have HD := hid hdr
    clear hdr
    obtain ⟨x0, x1, x2, x3⟩ := box_cells2 hb
    by_cases hlk : j < ts.length
    · have hlk2 : j < us.length := by have := HL.out; omega
      obtain ⟨b, o, k1, n1, a1, cap1, g1, rfl, hblt, c0, c1, hat, hf⟩ := HG.out j hlk
      obtain ⟨b2, o2, k3, n3, a3, cap3, g2, rfl, hblt2, e0, e1, hat2, hf2⟩ := HG2.out j hlk2
      have hbw := alloc2 hb
      have d0 := (hbw.cell (p := ⟨b, o + j * 2, none⟩) hblt).trans c0
      have d1 := (hbw.cell (p := ⟨b, o + j * 2 + 1, none⟩) hblt).trans c1
      have d2 := (hbw.cell (p := ⟨b2, o2 + j * 2, none⟩) hblt2).trans e0
      have d3 := (hbw.cell (p := ⟨b2, o2 + j * 2 + 1, none⟩) hblt2).trans e1
      clear c0 c1 e0 e1
      have HST := hid (tyEqL_step hlk hlk2)
      go_wp2_with fail
      go_still_tail 10, (by kernel_rfl)
      go_wp2_with fail
      refine (HIH.out _ (List.getElem_mem hlk) _ _ _ _ _ _ (hat.below ?_) (hat2.below ?_)).mono ?_
      · exact hbw.drew
      · exact hbw.drew
      rintro e w1 ⟨rfl, hb1⟩
      have hbb := hb.trans ((below_trans (below_drew wr) hb1).mono hb.size)
      clear hb hb1 hat hat2 d0 d1 d2 d3 hbw
      generalize tyEq ts[j] us[j] = r at *
      cases r
      · go_wp2_with fail
        go_ret
        exact ⟨ret_b (by rw [HT.out, ← HD.out, HST.out, Bool.false_and]), alloc2 hbb⟩
      · go_wp2_with fail
        go_roundw
        case rel => exact ⟨j + 1, by omega, by go_num, by rw [← HD.out, HST.out, Bool.true_and], hbb⟩
        case measure => simp [intOf]; omega
    · go_wp2_with fail
      go_ret
      exact ⟨ret_b (by rw [HT.out, ← HD.out, List.drop_of_length_le (by omega), List.drop_of_length_le (by have := HL.out; omega)]; simp only [tyEqL]), alloc2 hb⟩

theorem specTypeSame : ∀ t : Ty, TsC t := Ty.ind specTypeSame_of

end Go.Proofs.YtjpmlmdbldcbjaaDoor

namespace Go.Proofs.YtjpmlmdbldcbjaaDoor
open Go.RowKit

def kindT : Ty → Int
  | .mk k _ => k
end Go.Proofs.YtjpmlmdbldcbjaaDoor

namespace Go.Proofs.YtjpmlmdbldcbjaaDoor
open Go.ChangeShapes Go.WideShapes Go.ChangeAt Go.RowKit Go.Deep

theorem Tryd.cellsTy : Tryd.prog.cellsOf 24 = 2 := by kernel_rfl
theorem Tryd.cellsInt : Tryd.prog.cellsOf 3 = 1 := by kernel_rfl
theorem Tryd.cellsSl : Tryd.prog.cellsOf 22 = 1 := by kernel_rfl

section
variable {H : Type} {enc : TypeId × Value → H} {w : World} {base : Nat} {sp : Nat → Bool} {hd : Bool}

theorem atL_of {b : Nat} : ∀ (n o : Nat), (∀ i, i < n → ∃ v0 v1 t f, w.cell? ⟨b, o + i * 2, none⟩ = some v0 ∧ w.cell? ⟨b, o + i * 2 + 1, none⟩ = some v1 ∧ Ty.At w t (.agg #[v0, v1]) f) →
    ∃ ts fp, ts.length = n ∧ Ty.AtL w ts b o fp
  | 0, o, _ => ⟨[], [], rfl, by simp only [Ty.AtL]⟩
  | n + 1, o, h => by
    obtain ⟨v0, v1, t, f, c0, c1, ht⟩ := h 0 (by omega)
    obtain ⟨ts, fp, hn, hl⟩ := atL_of n (o + 2) (fun i hi => by
      have := h (i + 1) (by omega)
      rw [show o + (i + 1) * 2 = o + 2 + i * 2 by omega] at this
      exact this)
    exact ⟨t :: ts, f ++ fp, by simp [hn], v0, v1, f, fp, by simpa using c0, by simpa using c1, ht, hl, rfl⟩

set_option maxRecDepth 100000 in
theorem open_ty : ∀ (fuel : Nat) (cs : List Value) (x : DataW H × List MemPlace), DataW.trod enc Tryd.prog w base sp hd fuel 24 cs = some x → ∃ (t : Ty) (fp : List Nat), Ty.At w t (.agg cs.toArray) fp := by
  intro fuel
  induction fuel using Nat.strongRecOn with
  | _ fuel ih =>
    intro cs x h
    obtain ⟨xs, n, rfl, hx, hl, hlen, hf⟩ := DataW.trod_struct Tryd.underlying24 h
    rw [Tryd.cellsTy] at hl
    match xs, hlen, cs, hl with
    | [y0, y1], _, [c0, c1], _ =>
      have g0 := hf 0 _ rfl
      have g1 := hf 1 _ rfl
      simp [Tryd.cellsInt, Tryd.cellsSl] at g0 g1
      obtain ⟨k, hk, _, _⟩ := DataW.trod_int Tryd.underlying3 g0
      simp at hk
      subst hk
      rcases DataW.trod_slice Tryd.underlying22 g1 with ⟨hc, _⟩ | ⟨a, len, cap, elems, rest, m, rfl, hc, _, hb, hle, hm, hel, hi, _⟩
      · simp at hc
        subst hc
        exact ⟨.mk k [], [], Ty.at_mk.2 ⟨_, rfl, .inl ⟨rfl, rfl, _, _, rfl⟩⟩⟩
      · simp at hc
        subst hc
        by_cases h0 : len = 0
        · subst h0
          exact ⟨.mk k [], [], Ty.at_mk.2 ⟨_, rfl, .inl ⟨rfl, rfl, _, _, rfl⟩⟩⟩
        rw [Tryd.cellsTy] at hi
        have hel' : ∀ i, i < len → ∃ v0 v1 t f, w.cell? (a.add (i * 2)) = some v0 ∧ w.cell? ((a.add (i * 2)).add 1) = some v1 ∧ Ty.At w t (.agg #[v0, v1]) f := by
          intro i hil
          have h2 := hi i hil
          rw [List.getElem?_eq_getElem (by omega)] at h2
          obtain ⟨cs', h3, h4⟩ := Option.bind_eq_some_iff.1 h2
          obtain ⟨_, hl', hc'⟩ := World.cells?_some h3
          obtain ⟨t, f, hat⟩ := ih m (by omega) _ _ h4
          match cs', hl' with
          | [v0, v1], _ =>
            have e0 := hc' 0 (by omega)
            have e1 := hc' 1 (by omega)
            simp [Addr.add] at e0
            exact ⟨v0, v1, t, f, by simpa [Addr.add] using e0, by simpa using e1, hat⟩
        obtain ⟨b, off, spot⟩ := a
        obtain ⟨v0, _, _, _, e0, _⟩ := hel' 0 (by omega)
        have hspot : spot = none := by simpa [Addr.add] using World.cell?_spot e0
        subst hspot
        obtain ⟨ts, fp, hn, hl⟩ := atL_of (w := w) (b := b) len off (fun i hil => by
          obtain ⟨v0, v1, t, f, d0, d1, hat⟩ := hel' i hil
          refine ⟨v0, v1, t, f, ?_, ?_, hat⟩
          · simpa [add_plain] using d0
          · simpa [add_plain] using d1)
        subst hn
        exact ⟨.mk k ts, b :: fp, Ty.at_mk.2 ⟨_, rfl, .inr ⟨b, off, cap, fp, rfl, by omega, hle, Nat.le_trans hle hm, hl, rfl⟩⟩⟩
end
end Go.Proofs.YtjpmlmdbldcbjaaDoor

namespace Go.Proofs.YtjpmlmdbldcbjaaDoor
open Go.ChangeShapes Go.WideShapes Go.ChangeAt Go.RowKit Go.Deep

theorem Tryd.cellsTm : Tryd.prog.cellsOf 27 = 9 := by kernel_rfl
theorem Tryd.cellsStr : Tryd.prog.cellsOf 9 = 1 := by kernel_rfl
theorem Tryd.cellsSlM : Tryd.prog.cellsOf 25 = 1 := by kernel_rfl

section
variable {H : Type} {enc : TypeId × Value → H} {w : World} {base : Nat} {sp : Nat → Bool} {hd : Bool}

theorem atML_of {b : Nat} : ∀ (n o : Nat), (∀ i, i < n → ∃ cs t f, (∀ j, j < 9 → w.cell? ⟨b, o + i * 9 + j, none⟩ = cs[j]?) ∧ Tm.At w t (.agg cs) f) →
    ∃ ts fp, ts.length = n ∧ Tm.AtL w ts b o fp
  | 0, o, _ => ⟨[], [], rfl, by simp only [Tm.AtL]⟩
  | n + 1, o, h => by
    obtain ⟨cs, t, f, hc, ht⟩ := h 0 (by omega)
    obtain ⟨ts, fp, hn, hl⟩ := atML_of n (o + 9) (fun i hi => by
      obtain ⟨cs, t, f, hc, ht⟩ := h (i + 1) (by omega)
      refine ⟨cs, t, f, fun j hj => ?_, ht⟩
      rw [show o + 9 + i * 9 + j = o + (i + 1) * 9 + j by omega]
      exact hc j hj)
    refine ⟨t :: ts, f ++ fp, by simp [hn], ?_⟩
    simp only [Tm.AtL]
    exact ⟨cs, f, fp, fun j hj => by have := hc j hj; rw [Nat.zero_mul, Nat.add_zero] at this; exact this, ht, hl, rfl⟩

set_option maxHeartbeats 1000000 in
set_option maxRecDepth 100000 in
theorem open_tm : ∀ (fuel : Nat) (cs : List Value) (x : DataW H × List MemPlace), DataW.trod enc Tryd.prog w base sp hd fuel 27 cs = some x → ∃ (t : Tm) (fp : List Nat), Tm.At w t (.agg cs.toArray) fp := by
  intro fuel
  induction fuel using Nat.strongRecOn with
  | _ fuel ih =>
    intro cs x h
    obtain ⟨xs, n, rfl, hx, hl, hlen, hf⟩ := DataW.trod_struct Tryd.underlying27 h
    rw [Tryd.cellsTm] at hl
    match xs, hlen, cs, hl with
    | [y0, y1, y2, y3, y4, y5, y6], _, [c0, c1, c2, c3, c4, c5, c6, c7, c8], _ =>
      have g0 := hf 0 _ rfl
      have g1 := hf 1 _ rfl
      have g2 := hf 2 _ rfl
      have g3 := hf 3 _ rfl
      have g4 := hf 4 _ rfl
      have g5 := hf 5 _ rfl
      have g6 := hf 6 _ rfl
      simp [Tryd.cellsInt, Tryd.cellsSlM, Tryd.cellsTy, Tryd.cellsStr] at g0 g1 g2 g3 g4 g5 g6
      obtain ⟨k, hk, _, _⟩ := DataW.trod_int Tryd.underlying3 g0
      simp at hk
      subst hk
      obtain ⟨nm, hnm, _, hns⟩ := DataW.trod_string Tryd.underlying9 g1
      simp at hnm
      subst hnm
      obtain ⟨num, hnum, _, _⟩ := DataW.trod_int Tryd.underlying3 g2
      simp at hnum
      subst hnum
      obtain ⟨lb, hlb, _, _⟩ := DataW.trod_int Tryd.underlying3 g5
      simp at hlb
      subst hlb
      obtain ⟨ty, f1, h1⟩ := open_ty _ _ _ g3
      obtain ⟨fr, f2, h2⟩ := open_ty _ _ _ g4
      rcases DataW.trod_slice Tryd.underlying25 g6 with ⟨hc, _⟩ | ⟨a, len, cap, elems, rest, m, rfl, hc, _, hb, hle, hm, hel, hi, _⟩
      · simp at hc
        subst hc
        exact ⟨.mk k nm num ty fr lb [], _, Tm.at_mk.2 ⟨_, _, _, _, _, f1, f2, [], rfl, hns, h1, h2, rfl, .inl ⟨rfl, rfl, _, _, rfl⟩⟩⟩
      · simp at hc
        subst hc
        by_cases h0 : len = 0
        · subst h0
          exact ⟨.mk k nm num ty fr lb [], _, Tm.at_mk.2 ⟨_, _, _, _, _, f1, f2, [], rfl, hns, h1, h2, rfl, .inl ⟨rfl, rfl, _, _, rfl⟩⟩⟩
        rw [Tryd.cellsTm] at hi
        have hel' : ∀ i, i < len → ∃ cs t f, (∀ j, j < 9 → w.cell? ((a.add (i * 9)).add j) = cs[j]?) ∧ Tm.At w t (.agg cs) f := by
          intro i hil
          have h2 := hi i hil
          rw [List.getElem?_eq_getElem (by omega)] at h2
          obtain ⟨cs', h3, h4⟩ := Option.bind_eq_some_iff.1 h2
          obtain ⟨_, hl', hc'⟩ := World.cells?_some h3
          obtain ⟨t, f, hat⟩ := ih m (by omega) _ _ h4
          exact ⟨_, t, f, fun j hj => by simpa using hc' j hj, hat⟩
        obtain ⟨b, off, spot⟩ := a
        obtain ⟨ds, t0, _, e0, hat0⟩ := hel' 0 (by omega)
        have e00 := e0 0 (by omega)
        have h9 := Tm.size9 hat0
        rw [Array.getElem?_eq_getElem (by omega)] at e00
        have hspot : spot = none := by simpa [Addr.add] using World.cell?_spot e00
        subst hspot
        obtain ⟨ts, fp, hn, hl⟩ := atML_of (w := w) (b := b) len off (fun i hil => by
          obtain ⟨ds, t, f, d0, hat⟩ := hel' i hil
          refine ⟨ds, t, f, fun j hj => ?_, hat⟩
          have := d0 j hj
          simpa [add_plain] using this)
        subst hn
        exact ⟨.mk k nm num ty fr lb ts, _, Tm.at_mk.2 ⟨_, _, _, _, _, f1, f2, b :: fp, rfl, hns, h1, h2, rfl, .inr ⟨b, off, cap, fp, rfl, by omega, hle, Nat.le_trans hle hm, hl, rfl⟩⟩⟩
end

end Go.Proofs.YtjpmlmdbldcbjaaDoor

/- The program's TermValid and CountNodes: the grammar of terms without casts. Calls that write one block of the caller's: what stays. -/
import Derived.Test.YtffmpjcjmffdeaaDoorQNeW
import Derived.Test.YtffmpjcjmffdeaaDoorQG11
import Derived.Test.YtffmpjcjmffdeaaDoorQPkB
namespace Go.Proofs.YtffmpjcjmffdeaaDoor
open Go.RowKit

theorem size_empty (nm : ByteArray) : (nm.size == 0) = nm.toList.isEmpty := by
  by_cases h : nm.size = 0
  · rw [empty_of_size h, Lib.toList_data]; rfl
  · rw [ne_empty h]; simpa using h

theorem kidsM_none {k : Int} (h : ¬ (1 ≤ k ∧ k ≤ 14)) : kidsM k = -1 := by
  unfold kidsM
  rw [if_neg (by omega), if_neg (by omega), if_neg (by omega), if_neg (by omega)]

theorem minus_ne (n : Nat) : ((-1 : Int) == (n : Int)) = false := by
  rw [beq_eq_false_iff_ne]
  omega

/-- Fields of a node that is no cast. -/
theorem fldG_own {k : Int} (h : k ≠ 14) (nm : ByteArray) (num : Int) (ty fr : Ty) (lb : Int) : fldG k nm num ty fr lb = ownM k nm num ty fr lb := by
  have hj : (k == 14) = false := by simpa using h
  unfold fldG ownM
  rw [if_neg h, if_neg h, hj, size_empty]
  cases (if k = 1 ∨ k = 5 then isNm nm else nm.toList.isEmpty) <;> cases (if k = 5 ∨ k = 13 ∨ k = 14 then vld ty else noTy ty) <;> cases noTy fr <;> cases (lb == 0) <;> simp

theorem nodeG_13 (k : Int) (nm : ByteArray) (num : Int) (ty fr : Ty) (lb : Int) (n : Nat) : nodeG 13 k nm num ty fr lb n = ((kidsM k == (n : Int)) && (k != 14) && ownM k nm num ty fr lb) := by
  unfold nodeG
  by_cases h14 : k = 14
  · subst h14
    simp [hasK]
  by_cases hin : 1 ≤ k ∧ k ≤ 13
  · have h1 : hasK 13 k = true := by
      by_cases h : k ≤ 12
      · simp [hasK, hin.1, h]
      · have : k = 13 := by omega
        simp [hasK, this]
    have h2 : (k != 14) = true := by simpa using h14
    rw [h1, h2, fldG_own h14]
    simp
  · rw [kidsM_none (by omega), minus_ne]
    simp

theorem shpG_13 : ∀ (d : Nat) (t : Tm), shpG 13 d t = shpM d t
  | 0, _ => rfl
  | d + 1, .mk k nm num ty fr lb ts => by
    simp only [shpG, shpM, nodeG_13]
    congr 1
    exact List.all_congr rfl (fun t => shpG_13 d t)

theorem cntN_cw (t : Tm) : cntN t = cwG 13 30 12 t := by
  unfold cntN cwG vldM
  rw [shpG_13]
  simp only [Bool.and_eq_true, decide_eq_true_eq]

theorem cntN_pos (t : Tm) : decide (cntN t > 0) = vldM t := by
  unfold cntN
  have := cntD_pos 12 t
  cases vldM t
  · simp
  · simp; omega

set_option maxHeartbeats 400000 in
theorem plainTerms_any (w : World) : Calls Tryd.prog 98 #[] w fun e w' => e = .returned (.agg #[.int .i64 13, .int .i64 30, .int .i64 12]) ∧ Below w.heap.size w w' := by
  go_enter Tryd.func98, Tryd.ntmps98
  go_wp2_with fail
  exact bodyPost_ret (v := .agg #[.int .i64 13, .int .i64 30, .int .i64 12]) (by simp [results, Tryd.results98, go_sem]) rfl ⟨rfl, (Below.refl _ _).alloc (Nat.le_refl _) _⟩

set_option maxHeartbeats 1000000 in
theorem accepts_any (g : Int) (hg : g = 13 ∨ g = 14) (m n : Int) (d : Nat) (hm1 : m ≤ 1000) (hm2 : -1000 ≤ m) (hn1 : n ≤ 100) (hn : n.toNat = d) (t : Tm) (v : Value) (fp : List Nat) (w : World) (hF : Forms w) (hat : t.At w v fp) :
    Calls Tryd.prog 101 #[.agg #[.int .i64 g, .int .i64 m, .int .i64 n], v] w fun e w' => e = .returned (.bool (decide (0 < cwG g m d t))) ∧ Below w.heap.size w w' := by
  obtain ⟨k, nm, num, k1, n1, a1, c1, k2, n2, a2, c2, lb, n3, a3, c3, rfl⟩ := hat.agg
  have hb0 : Below w.heap.size w ((w.alloc (Obj.cells #[.int .i64 g, .int .i64 m, .int .i64 n] 119)).alloc (Obj.cells #[.int .i64 k, .string nm, .int .i64 num, .int .i64 k1, .slice a1 n1 c1, .int .i64 k2, .slice a2 n2 c2, .int .i64 lb, .slice a3 n3 c3] 35)) := ((Below.refl _ _).alloc (Nat.le_refl _) _).alloc (by simp) _
  have hr := cwG_range (g := g) (m := m) (d := d) (t := t)
  have HC := hid (count_any g hg d t _ _ m n _ hm1 hm2 hn1 hn (hF.below hb0) (hat.below hb0))
  have HB := hid hb0
  generalize cwG g m d t = c at *
  clear hn hb0 hat hF hg
  go_enter Tryd.func101, Tryd.ntmps101
  go_wp2_with fail
  refine HC.out.mono ?_
  rintro e w1 ⟨rfl, hb1⟩
  go_wp2_with fail
  go_ret
  exact ⟨rfl, HB.out.trans (hb1.mono HB.out.size)⟩

set_option maxHeartbeats 1000000 in
theorem implTermValid (t : Tm) (v : Value) (fp : List Nat) (w : World) (hF : Forms w) (hat : t.At w v fp) :
    Calls Tryd.prog 43 #[v] w fun e w' => e = .returned (.bool (vldM t)) ∧ Below w.heap.size w w' := by
  obtain ⟨k, nm, num, k1, n1, a1, c1, k2, n2, a2, c2, lb, n3, a3, c3, rfl⟩ := hat.agg
  have hb0 : Below w.heap.size w (w.alloc (Obj.cells #[.int .i64 k, .string nm, .int .i64 num, .int .i64 k1, .slice a1 n1 c1, .int .i64 k2, .slice a2 n2 c2, .int .i64 lb, .slice a3 n3 c3] 35)) := (Below.refl _ _).alloc (Nat.le_refl _) _
  have HE := hid (show decide (0 < cwG 13 30 12 t) = vldM t by rw [← cntN_cw]; exact cntN_pos t)
  obtain ⟨z0, z1, z2, z3, z4, z5, z6, z7, z8⟩ := box9 (Below.refl (w.alloc (Obj.cells #[.int .i64 k, .string nm, .int .i64 num, .int .i64 k1, .slice a1 n1 c1, .int .i64 k2, .slice a2 n2 c2, .int .i64 lb, .slice a3 n3 c3] 35)).heap.size (w.alloc (Obj.cells #[.int .i64 k, .string nm, .int .i64 num, .int .i64 k1, .slice a1 n1 c1, .int .i64 k2, .slice a2 n2 c2, .int .i64 lb, .slice a3 n3 c3] 35)))
  have HB := hid hb0
  have HA := hid hat
  have HF := hid hF
  clear hb0 hat hF
  go_enter Tryd.func43, Tryd.ntmps43
  go_wp2_with fail
  go_region_held3 (fun w' => Below (w.alloc (Obj.cells #[.int .i64 k, .string nm, .int .i64 num, .int .i64 k1, .slice a1 n1 c1, .int .i64 k2, .slice a2 n2 c2, .int .i64 lb, .slice a3 n3 c3] 35)).heap.size (w.alloc (Obj.cells #[.int .i64 k, .string nm, .int .i64 num, .int .i64 k1, .slice a1 n1 c1, .int .i64 k2, .slice a2 n2 c2, .int .i64 lb, .slice a3 n3 c3] 35)) w' ∧ w'.cell? ⟨w.heap.size, 0, none⟩ = some (.int .i64 k) ∧ w'.cell? ⟨w.heap.size, 1, none⟩ = some (.string nm) ∧ w'.cell? ⟨w.heap.size, 2, none⟩ = some (.int .i64 num) ∧ w'.cell? ⟨w.heap.size, 3, none⟩ = some (.int .i64 k1) ∧ w'.cell? ⟨w.heap.size, 4, none⟩ = some (.slice a1 n1 c1) ∧ w'.cell? ⟨w.heap.size, 5, none⟩ = some (.int .i64 k2) ∧ w'.cell? ⟨w.heap.size, 6, none⟩ = some (.slice a2 n2 c2) ∧ w'.cell? ⟨w.heap.size, 7, none⟩ = some (.int .i64 lb) ∧ w'.cell? ⟨w.heap.size, 8, none⟩ = some (.slice a3 n3 c3))
    ((refine (fun hB => ⟨hB, cell_keep z0 hB, cell_keep z1 hB, cell_keep z2 hB, cell_keep z3 hB, cell_keep z4 hB, cell_keep z5 hB, cell_keep z6 hB, cell_keep z7 hB, cell_keep z8 hB⟩ : Below (w.alloc (Obj.cells #[.int .i64 k, .string nm, .int .i64 num, .int .i64 k1, .slice a1 n1 c1, .int .i64 k2, .slice a2 n2 c2, .int .i64 lb, .slice a3 n3 c3] 35)).heap.size (w.alloc (Obj.cells #[.int .i64 k, .string nm, .int .i64 num, .int .i64 k1, .slice a1 n1 c1, .int .i64 k2, .slice a2 n2 c2, .int .i64 lb, .slice a3 n3 c3] 35)) _ → _) ?_; (first | exact below_drew _ | exact hk2 | exact hk1)))
    (first
      | (go_at_call 98; refine (plainTerms_any _).mono ?_; rintro e w1 ⟨rfl, hy1⟩; have hk1 := below_trans (below_drew _) hy1)
      | (go_at_call 101; refine (accepts_any 13 (by decide) 30 12 12 (by omega) (by omega) (by omega) rfl t _ _ _ (HF.out.below (below_trans HB.out hk1)) (HA.out.below (below_trans HB.out hk1))).mono ?_; rintro e w2 ⟨rfl, hy2⟩; have hk2 := below_trans hk1 hy2))
  go_wp2_with fail
  go_ret
  exact ⟨ret_b HE.out, below_trans HB.out hk2⟩

/-! A node of a plain term, by the forms. -/

end Go.Proofs.YtffmpjcjmffdeaaDoor

namespace Go.Proofs.YtffmpjcjmffdeaaDoor
open Go.RowKit

/-- From w to w' only new blocks and the block U have been written. -/
def Bx (U : Nat) (w w' : World) : Prop := w.grownBy w' (some U)

theorem Bx.refl (U : Nat) (w : World) : Bx U w w := World.grownBy.refl _ _
theorem Bx.of_below {U : Nat} {w w' : World} (h : Below w.heap.size w w') : Bx U w w' := grown_of_below h _
theorem Bx.size {U : Nat} {w w' : World} (h : Bx U w w') : w.heap.size ≤ w'.heap.size := World.grownBy.size h

theorem Bx.trans {U : Nat} {a b c : World} (h : Bx U a b) (k : Bx U b c) : Bx U a c :=
  ⟨k.os.trans h.os, k.tape.trans h.tape, k.output.trans h.output, Nat.le_trans h.size k.size, fun i hi hn => (k.block i (Nat.lt_of_lt_of_le hi h.size) hn).trans (h.block i hi hn)⟩

theorem Bx.trans_below {U B : Nat} {a b c : World} (h : Bx U a b) (k : Below B b c) (hB : a.heap.size ≤ B) : Bx U a c :=
  ⟨k.os.trans h.os, k.tape.trans h.tape, k.output.trans h.output, Nat.le_trans h.size k.size, fun i hi hn => (k.block i (by omega)).trans (h.block i hi hn)⟩

theorem Bx.setCell {U : Nat} {a b : World} (h : Bx U a b) {p : Addr} (hp : a.heap.size ≤ p.block) (u : Value) : Bx U a (b.setCell p u) :=
  h.trans_below ((Below.refl a.heap.size b).setCell hp u) (Nat.le_refl _)

theorem Bx.put {U : Nat} {a b : World} (h : Bx U a b) {M o : Nat} {vs : List Value} (hp : a.heap.size ≤ M) : Bx U a (Go.Proofs.YtffmpjcjmffdeaaDoor.put b M o vs) :=
  h.trans_below (below_put (Below.refl a.heap.size b) hp) (Nat.le_refl _)

theorem Bx.alloc {U : Nat} {a b : World} (h : Bx U a b) (o : Obj) : Bx U a (b.alloc o) := h.trans (Bx.of_below ((Below.refl _ _).alloc (Nat.le_refl _) _))

theorem Bx.block' {U : Nat} {w w' : World} (h : Bx U w w') {M : Nat} {o : Obj} (hM : w.heap[M]? = some o) (hn : M ≠ U) : w'.heap[M]? = some o :=
  (h.block M (lt_of_block hM) (fun e => hn (Option.some.inj e))).trans hM

theorem Bx.cell {U : Nat} {w w' : World} (h : Bx U w w') {b o : Nat} {u : Value} (hc : w.cell? ⟨b, o, none⟩ = some u) (hn : b ≠ U) : w'.cell? ⟨b, o, none⟩ = some u :=
  (World.grownBy.cell_far h ⟨b, o, none⟩ (World.block_lt_of_cell? _ _ hc) (fun e => hn (Option.some.inj e))).trans hc

theorem Bx.frozen {U : Nat} {w w' : World} (h : Bx U w w') {b o : Nat} {c : Bool} (hc : w.frozen? ⟨b, o, none⟩ = c) (hlt : b < w.heap.size) (hn : b ≠ U) : w'.frozen? ⟨b, o, none⟩ = c :=
  (World.grownBy.frozen_far h ⟨b, o, none⟩ hlt (fun e => hn (Option.some.inj e))).trans hc

theorem Bx.tm {U : Nat} {w w' : World} (h : Bx U w w') {t : Tm} {x : Value} {fp : List Nat} (ht : t.At w x fp) (hn : ∀ b ∈ fp, b ≠ U) : t.At w' x fp :=
  ht.congr fun b hb o => World.grownBy.cell_far h ⟨b, o, none⟩ (ht.lt b hb) (fun e => hn b hb (Option.some.inj e))

theorem Bx.sm {U : Nat} {w w' : World} (h : Bx U w w') {ts : List Tm} {x : Value} {fp : List Nat} (ht : SmAt w ts x fp) (hn : ∀ b ∈ fp, b ≠ U) : SmAt w' ts x fp :=
  ht.congr fun b hb o => World.grownBy.cell_far h ⟨b, o, none⟩ (ht.lt b hb) (fun e => hn b hb (Option.some.inj e))

theorem Bx.ty {U : Nat} {w w' : World} (h : Bx U w w') {t : Ty} {x : Value} {fp : List Nat} (ht : t.At w x fp) (hn : ∀ b ∈ fp, b ≠ U) : t.At w' x fp :=
  ht.congr fun b hb o => World.grownBy.cell_far h ⟨b, o, none⟩ (ht.lt b hb) (fun e => hn b hb (Option.some.inj e))

theorem Bx.fresh {U B : Nat} {w w' : World} (h : Bx U w w') {f : List Nat} (hf : Fresh B w f) (hU : U < B) : Fresh B w' f :=
  ⟨hf.1, fun b hb => ⟨(hf.2 b hb).1, Nat.lt_of_lt_of_le (hf.2 b hb).2.1 h.size, fun o => h.frozen ((hf.2 b hb).2.2 o) (hf.2 b hb).2.1 (by have := (hf.2 b hb).1; omega)⟩⟩

/-- Old blocks below B are as they were, if U lies from B on. -/
theorem Bx.below {U B : Nat} {w w' : World} (h : Bx U w w') (hB : B ≤ w.heap.size) (hU : B ≤ U) : Below B w w' :=
  ⟨h.os, h.tape, h.output, h.size, fun k hk => World.grownBy.block h k (by omega) (fun e => by have := Option.some.inj e; omega)⟩

theorem BuiltM.bx {U M : Nat} {T : TypeId} {n : Nat} {ds : List Tm} {fp : List Nat} {w w1 : World} (h : BuiltM M T n ds fp w) (hb : Bx U w w1) (hU : U < M) : BuiltM M T n ds fp w1 := by
  obtain ⟨C, hM, hC, hn, hl, hf⟩ := h
  have hMl := lt_of_block hM
  refine ⟨C, hb.block' hM (by omega), hC, hn, hl.congr (fun o => World.grownBy.cell_far hb ⟨M, o, none⟩ hMl (fun e => by have e' : M = U := Option.some.inj e; omega)) (fun b hm o => World.grownBy.cell_far hb ⟨b, o, none⟩ (hl.lt b hm) (fun e => by have e' : b = U := Option.some.inj e; have := hf.ge b hm; omega)), hb.fresh hf (by omega)⟩

theorem BuiltM.above {M : Nat} {T : TypeId} {n : Nat} {ds : List Tm} {fp : List Nat} {w w1 : World} (h : BuiltM M T n ds fp w) (hb : Above M w w1) (hs : w1.heap[M]? = w.heap[M]?) : BuiltM M T n ds fp w1 := by
  obtain ⟨C, hM, hC, hn, hl, hf⟩ := h
  have hMl := lt_of_block hM
  refine ⟨C, hs.trans hM, hC, hn, hl.congr (fun o => World.cell?_of_block (w := w) (a := ⟨M, o, none⟩) hs) (fun b hm o => World.cell?_of_block (w := w) (a := ⟨b, o, none⟩) (hb.block b (by have := hf.ge b hm; omega) (hl.lt b hm))), hf.above hb (by omega)⟩

theorem size_put {b : Nat} : ∀ {vs : List Value} {w : World} {o : Nat}, (put w b o vs).heap.size = w.heap.size
  | [], _, _ => rfl
  | v :: vs, w, o => by
    rw [put, size_put, size_setCell]

theorem heap_put_ne {M : Nat} : ∀ {vs : List Value} {w : World} {o b : Nat}, b ≠ M → (put w M o vs).heap[b]? = w.heap[b]?
  | [], _, _, _, _ => rfl
  | v :: vs, w, o, b, h => by
    rw [put, heap_put_ne h]
    exact Below.heap_setCell w _ v b h

theorem Ty.At.putne {w : World} {t : Ty} {v : Value} {fp : List Nat} {M o : Nat} {vs : List Value} (h : t.At w v fp) (hn : ∀ b ∈ fp, b ≠ M) : t.At (put w M o vs) v fp :=
  h.congr fun b hb o => World.cell?_of_block (w := w) (a := ⟨b, o, none⟩) (heap_put_ne (hn b hb))

theorem Fresh.putne {B : Nat} {M : Nat} : ∀ {vs : List Value} {w : World} {o : Nat} {fp : List Nat}, Fresh B w fp → (∀ b ∈ fp, b ≠ M) → Fresh B (put w M o vs) fp
  | [], _, _, _, h, _ => h
  | v :: vs, w, o, fp, h, hn => by
    rw [put]
    exact Fresh.putne (h.setCell (a := ⟨M, o, none⟩) hn v) hn

end Go.Proofs.YtffmpjcjmffdeaaDoor

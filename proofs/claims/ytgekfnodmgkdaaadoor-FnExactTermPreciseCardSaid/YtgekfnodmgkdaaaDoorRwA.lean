/- The program's copyType at the zero type too; copyNode. Calls that write one block of the caller's: what stays. The program's rewriteTerm, over any change of nodes that has a contract. The program's withEachType: over any choice of types that has a contract. The program's withEachType. -/
import Derived.Test.YtgekfnodmgkdaaaDoorCpT
import Derived.Test.YtgekfnodmgkdaaaDoorNdW
import Derived.Test.YtgekfnodmgkdaaaDoorPkB
import Derived.Test.YtgekfnodmgkdaaaDoorTysM
namespace Go.Proofs.YtgekfnodmgkdaaaDoor
open Go.RowKit

set_option maxRecDepth 100000 in
set_option maxHeartbeats 800000 in
theorem copyType_zero (v : Value) (fp : List Nat) (w : World) (h : (Ty.mk 0 []).At w v fp) : Calls Tryd.prog 81 #[v] w (MadeT w (.mk 0 [])) := by
  obtain ⟨k, m, a, cap, rfl⟩ := h.agg
  have hB := (((Below.refl w.heap.size w).alloc (Nat.le_refl _) (Obj.cells #[.int .i64 k, .slice a m cap] 32)).alloc (by simp) (Obj.cells #[.int .i64 0, .slice none 0 0] 32))
  have HT := hid (show wkT unkT (.mk 0 []) (.mk 0 []) = .mk 0 [] by simp [wkT, wkTL])
  go_enter Tryd.func81, Tryd.ntmps81
  go_wp2_with fail
  refine (walkT_same 145 unkT 0 [] [] (by decide) rfl (Nat.zero_le _) (by simp) (by simp) (by simp) _ _ _ _ _ (h.below hB) (h.below hB)).mono ?_
  rw [HT.out]
  rintro e w1 ⟨v, f, rfl, hat, hf, hb⟩
  obtain ⟨kr, nr, ar, capr, rfl⟩ := hat.agg
  obtain ⟨x0, x1, r0, r1, rz⟩ := boxes2 hb
  have hM : w.heap.size + 1 < w1.heap.size := by have := hb.size; simp at this; omega
  have hbb := ((alloc2 hb).setCell (p := ⟨w.heap.size + 1, 0, none⟩) (by simp) (.int .i64 kr)).setCell (p := ⟨w.heap.size + 1, 1, none⟩) (by simp) (.slice ar nr capr)
  have hkr := keepR (R := w.heap.size + 1) (x := .int .i64 kr) (y := .slice ar nr capr) hat hf (by simp)
  go_wp2_with fail
  exact bodyPost_ret (v := .agg #[.int .i64 kr, .slice ar nr capr]) (by simp [results, Tryd.results81, go_sem, r0, r1]) rfl ⟨_, f, rfl, hkr.1, hkr.2.mono (by simp; omega), hbb⟩

theorem noTy_eq {t : Ty} (h : noTy t = true) : t = .mk 0 [] := by
  cases t with
  | mk k ts =>
    simp only [noTy, Bool.and_eq_true, beq_iff_eq] at h
    rw [h.1, List.length_eq_zero_iff.1 h.2]

/-- A type that a valid node may hold. -/
def okTy (t : Ty) : Prop := wf t ∨ noTy t = true

theorem copyType_ok (t : Ty) (v : Value) (fp : List Nat) (w : World) (h : t.At w v fp) (hw : okTy t) : Calls Tryd.prog 81 #[v] w (MadeT w t) := by
  rcases hw with hw | hw
  · exact copyType_any t v fp w h hw
  · rw [noTy_eq hw] at h ⊢
    exact copyType_zero v fp w h

/-- What a call says that hands back a node in memory of its own but for the operands, which are the argument's. -/
def MadeN (w : World) (k : Int) (nm : ByteArray) (num : Int) (ty fr : Ty) (lb : Int) (s : Value) (e : Ending) (w' : World) : Prop :=
  ∃ k1 n1 a1 c1 k2 n2 a2 c2 g1 g2, e = .returned (.tuple #[.agg #[.int .i64 k, .string nm, .int .i64 num, .int .i64 k1, .slice a1 n1 c1, .int .i64 k2, .slice a2 n2 c2, .int .i64 lb, s], .bool true]) ∧
    Ty.At w' ty (.agg #[.int .i64 k1, .slice a1 n1 c1]) g1 ∧ Ty.At w' fr (.agg #[.int .i64 k2, .slice a2 n2 c2]) g2 ∧ Fresh w.heap.size w' (g1 ++ g2) ∧ Below w.heap.size w w'

set_option maxRecDepth 100000 in
set_option maxHeartbeats 2000000 in
theorem copyNode_any (k : Int) (nm : ByteArray) (num : Int) (ty fr : Ty) (lb : Int) (a3 : Option Addr) (n3 c3 : Nat) (k1 k2 : Int) (n1 n2 c1 c2 : Nat) (a1 a2 : Option Addr) (f1 f2 : List Nat) (w : World)
    (ht1 : Ty.At w ty (.agg #[.int .i64 k1, .slice a1 n1 c1]) f1) (ht2 : Ty.At w fr (.agg #[.int .i64 k2, .slice a2 n2 c2]) f2) (h1 : okTy ty) (h2 : okTy fr) :
    Calls Tryd.prog 163 #[.agg #[.int .i64 k, .string nm, .int .i64 num, .int .i64 k1, .slice a1 n1 c1, .int .i64 k2, .slice a2 n2 c2, .int .i64 lb, .slice a3 n3 c3]] w (MadeN w k nm num ty fr lb (.slice a3 n3 c3)) := by
  have hb0 : Below w.heap.size w ((w.alloc (Obj.cells #[.int .i64 k, .string nm, .int .i64 num, .int .i64 k1, .slice a1 n1 c1, .int .i64 k2, .slice a2 n2 c2, .int .i64 lb, .slice a3 n3 c3] 35)).alloc
      (Obj.cells #[.int .i64 0, .string ByteArray.empty, .int .i64 0, .int .i64 0, .slice none 0 0, .int .i64 0, .slice none 0 0, .int .i64 0, .slice none 0 0] 35)) :=
    (((Below.refl _ _).alloc (Nat.le_refl _) _).alloc (by simp) _)
  go_enter Tryd.func163, Tryd.ntmps163
  go_wp2_with fail
  refine (copyType_ok ty _ _ _ (ht1.below hb0) h1).mono ?_
  rintro e w1 ⟨v1, g1, rfl, hv1, hg1, hb1⟩
  obtain ⟨j1, m1, p1, d1, rfl⟩ := hv1.agg
  obtain ⟨hB, hZ⟩ := two_out hb1
  obtain ⟨x0, x1, x2, x3, x4, x5, x6, x7, x8⟩ := cells9 hB
  have xz := fun o => frozen_of_block (o := o) hB
  have hs0 : ((w.alloc (Obj.cells #[.int .i64 k, .string nm, .int .i64 num, .int .i64 k1, .slice a1 n1 c1, .int .i64 k2, .slice a2 n2 c2, .int .i64 lb, .slice a3 n3 c3] 35)).alloc
      (Obj.cells #[.int .i64 0, .string ByteArray.empty, .int .i64 0, .int .i64 0, .slice none 0 0, .int .i64 0, .slice none 0 0, .int .i64 0, .slice none 0 0] 35)).heap.size = w.heap.size + 1 + 1 := by simp
  have b1 := below_trans hb0 hb1
  rw [hs0] at hg1
  have hM : w.heap.size + 1 < w1.heap.size := lt_of_block hZ
  clear hs0 hb1 hb0
  go_wp2_with fail
  have b2 := (b1.setCell (p := ⟨w.heap.size, 3, none⟩) (Nat.le_refl _) (.int .i64 j1)).setCell (p := ⟨w.heap.size, 4, none⟩) (Nat.le_refl _) (.slice p1 m1 d1)
  refine (copyType_ok fr _ _ _ (ht2.below b2) h2).mono ?_
  rintro e w2 ⟨v2, g2, rfl, hv2, hg2, hb2⟩
  obtain ⟨j2, m2, p2, d2, rfl⟩ := hv2.agg
  have ab1 := ((Above.refl (w.heap.size + 1 + 1) w1).setCell (p := ⟨w.heap.size, 3, none⟩) (by simp; omega) (.int .i64 j1)).setCell (p := ⟨w.heap.size, 4, none⟩) (by simp; omega) (.slice p1 m1 d1)
  have hv1' := (hv1.above ab1 hg1.ge).below hb2
  have F2 := Fresh.append (hg1.above ab1 (Nat.le_refl _)) hg2 (Nat.le_refl _) (by rw [size_setCell, size_setCell]; omega) hb2
  have hB2 : w2.heap[w.heap.size]? = some (.cells #[.int .i64 k, .string nm, .int .i64 num, .int .i64 j1, .slice p1 m1 d1, .int .i64 k2, .slice a2 n2 c2, .int .i64 lb, .slice a3 n3 c3] 35 (0, 0)) :=
    blk (heap_setCell_at (heap_setCell_at hB _) _) hb2
  have hZ2 := blk (blk_ne (a := ⟨w.heap.size, 4, none⟩) (u := .slice p1 m1 d1) (blk_ne (a := ⟨w.heap.size, 3, none⟩) (u := .int .i64 j1) hZ (by simp)) (by simp)) hb2
  have b3 := below_trans b2 hb2
  clear x0 x1 x2 x3 x4 x5 x6 x7 x8 xz hB hZ hv1 hg1 hg2 b1 b2 hb2 ab1
  obtain ⟨x0, x1, x2, x3, x4, x5, x6, x7, x8⟩ := cells9 hB2
  obtain ⟨y0, y1, y2, y3, y4, y5, y6, y7, y8⟩ := cells9 hZ2
  have xz := fun o => frozen_of_block (o := o) hB2
  have yz := fun o => frozen_of_block (o := o) hZ2
  have ab3 := Above.put (vs := [.int .i64 k, .string nm, .int .i64 num, .int .i64 j1, .slice p1 m1 d1, .int .i64 j2, .slice p2 m2 d2, .int .i64 lb, .slice a3 n3 c3]) (o := 0) (((Above.refl (w.heap.size + 1 + 1) w2).setCell (p := ⟨w.heap.size, 5, none⟩) (by simp; omega) (.int .i64 j2)).setCell (p := ⟨w.heap.size, 6, none⟩) (by simp; omega) (.slice p2 m2 d2)) (b := w.heap.size + 1) (by omega)
  have b6 := below_put (vs := [.int .i64 k, .string nm, .int .i64 num, .int .i64 j1, .slice p1 m1 d1, .int .i64 j2, .slice p2 m2 d2, .int .i64 lb, .slice a3 n3 c3]) (o := 0) ((b3.setCell (p := ⟨w.heap.size, 5, none⟩) (Nat.le_refl _) (.int .i64 j2)).setCell (p := ⟨w.heap.size, 6, none⟩) (Nat.le_refl _) (.slice p2 m2 d2)) (b := w.heap.size + 1) (by omega)
  have q1 := hv1'.above ab3 (fun b hb => F2.ge b (by simp [hb]))
  have q2 := hv2.above ab3 (fun b hb => F2.ge b (by simp [hb]))
  have F4 := (F2.above ab3 (Nat.le_refl _)).mono (B' := w.heap.size) (by omega)
  clear hv1' hv2 F2 ab3
  go_wp2_with fail
  exact bodyPost_ret (v := .tuple #[.agg #[.int .i64 k, .string nm, .int .i64 num, .int .i64 j1, .slice p1 m1 d1, .int .i64 j2, .slice p2 m2 d2, .int .i64 lb, .slice a3 n3 c3], .bool true]) (by simp [results, Tryd.results163, go_sem, y0, y1, y2, y3, y4, y5, y6, y7, y8]) rfl ⟨_, _, _, _, _, _, _, _, g1, g2, rfl, q1, q2, F4, b6⟩

/-- From w to w' only new blocks and the block U have been written. -/
def Bx (U : Nat) (w w' : World) : Prop := w.grownBy w' (some U)

theorem Bx.refl (U : Nat) (w : World) : Bx U w w := World.grownBy.refl _ _
theorem Bx.of_below {U : Nat} {w w' : World} (h : Below w.heap.size w w') : Bx U w w' := grown_of_below h _
theorem Bx.size {U : Nat} {w w' : World} (h : Bx U w w') : w.heap.size ≤ w'.heap.size := World.grownBy.size h

theorem Bx.trans {U : Nat} {a b c : World} (h : Bx U a b) (k : Bx U b c) : Bx U a c :=
  ⟨k.os.trans h.os, k.tape.trans h.tape, k.output.trans h.output, Nat.le_trans h.size k.size, fun i hi hn => (k.block i (Nat.lt_of_lt_of_le hi h.size) hn).trans (h.block i hi hn)⟩

theorem Bx.trans_below {U B : Nat} {a b c : World} (h : Bx U a b) (k : Below B b c) (hB : a.heap.size ≤ B) : Bx U a c :=
  ⟨k.os.trans h.os, k.tape.trans h.tape, k.output.trans h.output, Nat.le_trans h.size k.size, fun i hi hn => (k.block i (by omega)).trans (h.block i hi hn)⟩

theorem Bx.setCell {U : Nat} {a b : World} (h : Bx U a b) {p : Addr} (hp : a.heap.size ≤ p.block) (u : Value) : Bx U a (b.setCell p u) :=
  h.trans_below ((Below.refl a.heap.size b).setCell hp u) (Nat.le_refl _)

theorem Bx.put {U : Nat} {a b : World} (h : Bx U a b) {M o : Nat} {vs : List Value} (hp : a.heap.size ≤ M) : Bx U a (Go.Proofs.YtgekfnodmgkdaaaDoor.put b M o vs) :=
  h.trans_below (below_put (Below.refl a.heap.size b) hp) (Nat.le_refl _)

theorem Bx.alloc {U : Nat} {a b : World} (h : Bx U a b) (o : Obj) : Bx U a (b.alloc o) := h.trans (Bx.of_below ((Below.refl _ _).alloc (Nat.le_refl _) _))

theorem Bx.block' {U : Nat} {w w' : World} (h : Bx U w w') {M : Nat} {o : Obj} (hM : w.heap[M]? = some o) (hn : M ≠ U) : w'.heap[M]? = some o :=
  (h.block M (lt_of_block hM) (fun e => hn (Option.some.inj e))).trans hM

theorem Bx.cell {U : Nat} {w w' : World} (h : Bx U w w') {b o : Nat} {u : Value} (hc : w.cell? ⟨b, o, none⟩ = some u) (hn : b ≠ U) : w'.cell? ⟨b, o, none⟩ = some u :=
  (World.grownBy.cell_far h ⟨b, o, none⟩ (World.block_lt_of_cell? _ _ hc) (fun e => hn (Option.some.inj e))).trans hc

theorem Bx.frozen {U : Nat} {w w' : World} (h : Bx U w w') {b o : Nat} {c : Bool} (hc : w.frozen? ⟨b, o, none⟩ = c) (hlt : b < w.heap.size) (hn : b ≠ U) : w'.frozen? ⟨b, o, none⟩ = c :=
  (World.grownBy.frozen_far h ⟨b, o, none⟩ hlt (fun e => hn (Option.some.inj e))).trans hc

theorem Bx.tm {U : Nat} {w w' : World} (h : Bx U w w') {t : Tm} {x : Value} {fp : List Nat} (ht : t.At w x fp) (hn : ∀ b ∈ fp, b ≠ U) : t.At w' x fp :=
  ht.congr fun b hb o => World.grownBy.cell_far h ⟨b, o, none⟩ (ht.lt b hb) (fun e => hn b hb (Option.some.inj e))

theorem Bx.sm {U : Nat} {w w' : World} (h : Bx U w w') {ts : List Tm} {x : Value} {fp : List Nat} (ht : SmAt w ts x fp) (hn : ∀ b ∈ fp, b ≠ U) : SmAt w' ts x fp :=
  ht.congr fun b hb o => World.grownBy.cell_far h ⟨b, o, none⟩ (ht.lt b hb) (fun e => hn b hb (Option.some.inj e))

theorem Bx.ty {U : Nat} {w w' : World} (h : Bx U w w') {t : Ty} {x : Value} {fp : List Nat} (ht : t.At w x fp) (hn : ∀ b ∈ fp, b ≠ U) : t.At w' x fp :=
  ht.congr fun b hb o => World.grownBy.cell_far h ⟨b, o, none⟩ (ht.lt b hb) (fun e => hn b hb (Option.some.inj e))

theorem Bx.fresh {U B : Nat} {w w' : World} (h : Bx U w w') {f : List Nat} (hf : Fresh B w f) (hU : U < B) : Fresh B w' f :=
  ⟨hf.1, fun b hb => ⟨(hf.2 b hb).1, Nat.lt_of_lt_of_le (hf.2 b hb).2.1 h.size, fun o => h.frozen ((hf.2 b hb).2.2 o) (hf.2 b hb).2.1 (by have := (hf.2 b hb).1; omega)⟩⟩

/-- Old blocks below B are as they were, if U lies from B on. -/
theorem Bx.below {U B : Nat} {w w' : World} (h : Bx U w w') (hB : B ≤ w.heap.size) (hU : B ≤ U) : Below B w w' :=
  ⟨h.os, h.tape, h.output, h.size, fun k hk => World.grownBy.block h k (by omega) (fun e => by have := Option.some.inj e; omega)⟩

theorem BuiltM.bx {U M : Nat} {T : TypeId} {n : Nat} {ds : List Tm} {fp : List Nat} {w w1 : World} (h : BuiltM M T n ds fp w) (hb : Bx U w w1) (hU : U < M) : BuiltM M T n ds fp w1 := by
  obtain ⟨C, hM, hC, hn, hl, hf⟩ := h
  have hMl := lt_of_block hM
  refine ⟨C, hb.block' hM (by omega), hC, hn, hl.congr (fun o => World.grownBy.cell_far hb ⟨M, o, none⟩ hMl (fun e => by have e' : M = U := Option.some.inj e; omega)) (fun b hm o => World.grownBy.cell_far hb ⟨b, o, none⟩ (hl.lt b hm) (fun e => by have e' : b = U := Option.some.inj e; have := hf.ge b hm; omega)), hb.fresh hf (by omega)⟩

theorem BuiltM.stepX {U M : Nat} {T : TypeId} {n k : Nat} {ds : List Tm} {t : Tm} {vs : List Value} {f fp : List Nat} {w w1 : World} (h : BuiltM M T n ds fp w) (hk : ds.length = k) (hlt : k < n) (hb : Bx U w w1) (hU : U < M) (ht : t.At w1 (.agg vs.toArray) f) (hf : Fresh w.heap.size w1 f) :
    BuiltM M T n (ds ++ [t]) (fp ++ f) (put w1 M (k * 9) vs) :=
  (h.bx hb hU).set hk hlt ht hf (let ⟨_, _, _, _, hl, _⟩ := h; hl.lt) (let ⟨_, hB, _⟩ := h; lt_of_block hB)

theorem BuiltM.above {M : Nat} {T : TypeId} {n : Nat} {ds : List Tm} {fp : List Nat} {w w1 : World} (h : BuiltM M T n ds fp w) (hb : Above M w w1) (hs : w1.heap[M]? = w.heap[M]?) : BuiltM M T n ds fp w1 := by
  obtain ⟨C, hM, hC, hn, hl, hf⟩ := h
  have hMl := lt_of_block hM
  refine ⟨C, hs.trans hM, hC, hn, hl.congr (fun o => World.cell?_of_block (w := w) (a := ⟨M, o, none⟩) hs) (fun b hm o => World.cell?_of_block (w := w) (a := ⟨b, o, none⟩) (hb.block b (by have := hf.ge b hm; omega) (hl.lt b hm))), hf.above hb (by omega)⟩

theorem size_put {b : Nat} : ∀ {vs : List Value} {w : World} {o : Nat}, (put w b o vs).heap.size = w.heap.size
  | [], _, _ => rfl
  | v :: vs, w, o => by
    rw [put, size_put, size_setCell]

theorem heap_put_ne {M : Nat} : ∀ {vs : List Value} {w : World} {o b : Nat}, b ≠ M → (put w M o vs).heap[b]? = w.heap[b]?
  | [], _, _, _, _ => rfl
  | v :: vs, w, o, b, h => by
    rw [put, heap_put_ne h]
    exact Below.heap_setCell w _ v b h

theorem Ty.At.putne {w : World} {t : Ty} {v : Value} {fp : List Nat} {M o : Nat} {vs : List Value} (h : t.At w v fp) (hn : ∀ b ∈ fp, b ≠ M) : t.At (put w M o vs) v fp :=
  h.congr fun b hb o => World.cell?_of_block (w := w) (a := ⟨b, o, none⟩) (heap_put_ne (hn b hb))

theorem Fresh.putne {B : Nat} {M : Nat} : ∀ {vs : List Value} {w : World} {o : Nat} {fp : List Nat}, Fresh B w fp → (∀ b ∈ fp, b ≠ M) → Fresh B (put w M o vs) fp
  | [], _, _, _, h, _ => h
  | v :: vs, w, o, fp, h, hn => by
    rw [put]
    exact Fresh.putne (h.setCell (a := ⟨M, o, none⟩) hn v) hn

section
variable (nx : Nat → Tm → Nat) (ch : Nat → Tm → Tm ⊕ (Ty × Ty))
mutual
/-- The state behind a term. -/
def rwN : Nat → Tm → Nat
  | n, .mk k nm num ty fr lb ts => match ch n (.mk k nm num ty fr lb ts) with
    | .inl _ => nx n (.mk k nm num ty fr lb ts)
    | .inr _ => rwNL (nx n (.mk k nm num ty fr lb ts)) ts
def rwNL : Nat → List Tm → Nat
  | n, [] => n
  | n, t :: ts => rwNL (rwN n t) ts
end
mutual
/-- The rewritten term. -/
def rwT : Nat → Tm → Tm
  | n, .mk k nm num ty fr lb ts => match ch n (.mk k nm num ty fr lb ts) with
    | .inl u => u
    | .inr x => .mk k nm num x.1 x.2 lb (rwL (nx n (.mk k nm num ty fr lb ts)) ts)
def rwL : Nat → List Tm → List Tm
  | _, [] => []
  | n, t :: ts => rwT n t :: rwL (rwN nx ch n t) ts
end

theorem rwL_len : ∀ (ts : List Tm) (n : Nat), (rwL nx ch n ts).length = ts.length
  | [], _ => by simp only [rwL, List.length_nil]
  | t :: ts, n => by simp only [rwL, List.length_cons, rwL_len ts]

theorem rwNL_take : ∀ (ts : List Tm) (n j : Nat) (h : j < ts.length), rwNL nx ch n (ts.take (j + 1)) = rwN nx ch (rwNL nx ch n (ts.take j)) ts[j]
  | t :: ts, n, 0, _ => by simp [rwNL]
  | t :: ts, n, j + 1, h => by
    simp only [List.take_succ_cons, rwNL, List.getElem_cons_succ]
    exact rwNL_take ts _ j (by simpa using h)

theorem rwL_get : ∀ (ts : List Tm) (n j : Nat) (h : j < ts.length) (h' : j < (rwL nx ch n ts).length), (rwL nx ch n ts)[j] = rwT nx ch (rwNL nx ch n (ts.take j)) ts[j]
  | t :: ts, n, 0, _, _ => by simp [rwL, rwNL]
  | t :: ts, n, j + 1, h, h' => by
    simp only [rwL, List.take_succ_cons, rwNL, List.getElem_cons_succ]
    exact rwL_get ts _ j (by simpa using h) _

theorem rwL_take {ts : List Tm} {n j : Nat} (h : j < ts.length) : (rwL nx ch n ts).take (j + 1) = (rwL nx ch n ts).take j ++ [rwT nx ch (rwNL nx ch n (ts.take j)) ts[j]] := by
  have h' : j < (rwL nx ch n ts).length := by rw [rwL_len]; exact h
  rw [take_succM h', rwL_get nx ch ts n j h h']
end

/-- What the rewriting of a term says. -/
def RwOut (U : Nat) (St : Nat → World → Prop) (w : World) (n' : Nat) (u : Tm) (e : Ending) (w' : World) : Prop :=
  ∃ v' f', e = .returned v' ∧ u.At w' v' f' ∧ Fresh w.heap.size w' f' ∧ Bx U w w' ∧ St n' w'

/-- What a change of a node says. -/
def ChOut (U : Nat) (St : Nat → World → Prop) (w : World) (n' : Nat) (k : Int) (nm : ByteArray) (num lb : Int) (s : Value) (e : Ending) (w' : World) : Tm ⊕ (Ty × Ty) → Prop
  | .inl u => ∃ v f, e = .returned (.tuple #[v, .bool false]) ∧ u.At w' v f ∧ Fresh w.heap.size w' f ∧ Bx U w w' ∧ St n' w'
  | .inr x => ∃ k1 n1 a1 c1 k2 n2 a2 c2 g1 g2, e = .returned (.tuple #[.agg #[.int .i64 k, .string nm, .int .i64 num, .int .i64 k1, .slice a1 n1 c1, .int .i64 k2, .slice a2 n2 c2, .int .i64 lb, s], .bool true]) ∧
      Ty.At w' x.1 (.agg #[.int .i64 k1, .slice a1 n1 c1]) g1 ∧ Ty.At w' x.2 (.agg #[.int .i64 k2, .slice a2 n2 c2]) g2 ∧ Fresh w.heap.size w' (g1 ++ g2) ∧ Bx U w w' ∧ St n' w'

def ChC (fc : FuncId) (c0 : Value) (U S0 : Nat) (St : Nat → World → Prop) (Pre : Nat → Tm → Prop) (nx : Nat → Tm → Nat) (ch : Nat → Tm → Tm ⊕ (Ty × Ty)) : Prop :=
  ∀ n k nm num ty fr lb ts k1 n1 a1 c1 k2 n2 a2 c2 a3 c3 fp w, (Tm.mk k nm num ty fr lb ts).At w (.agg #[.int .i64 k, .string nm, .int .i64 num, .int .i64 k1, .slice a1 n1 c1, .int .i64 k2, .slice a2 n2 c2, .int .i64 lb, .slice a3 ts.length c3]) fp → Pre n (.mk k nm num ty fr lb ts) → St n w → S0 ≤ w.heap.size → (∀ b ∈ fp, b ≠ U) →
    Calls Tryd.prog fc #[(.agg #[.int .i64 k, .string nm, .int .i64 num, .int .i64 k1, .slice a1 n1 c1, .int .i64 k2, .slice a2 n2 c2, .int .i64 lb, .slice a3 ts.length c3]), c0] w (fun e w' => ChOut U St w (nx n (.mk k nm num ty fr lb ts)) k nm num lb (.slice a3 ts.length c3) e w' (ch n (.mk k nm num ty fr lb ts)))

def RwC (fc : FuncId) (c0 : Value) (U S0 : Nat) (St : Nat → World → Prop) (Pre : Nat → Tm → Prop) (nx : Nat → Tm → Nat) (ch : Nat → Tm → Tm ⊕ (Ty × Ty)) (t : Tm) : Prop :=
  ∀ n v fp w, t.At w v fp → Pre n t → St n w → S0 ≤ w.heap.size → (∀ b ∈ fp, b ≠ U) → t.sz ≤ 1048576 →
    Calls Tryd.prog 161 #[v, .func (.func fc) #[] #[c0]] w (RwOut U St w (rwN nx ch n t) (rwT nx ch n t))

theorem boxes_bx {U : Nat} {w w1 : World} {o1 o2 : Obj} (hU : U < w.heap.size) (h : Bx U ((w.alloc o1).alloc o2) w1) : w1.heap[w.heap.size]? = some o1 ∧ w1.heap[w.heap.size + 1]? = some o2 := by
  obtain ⟨a, b⟩ := two_out (Below.refl ((w.alloc o1).alloc o2).heap.size ((w.alloc o1).alloc o2))
  exact ⟨h.block' a (by omega), h.block' b (by omega)⟩

/-- The last stores: into the node's box, its slice of operands, and into the result. -/
theorem rw_fin {S0 U : Nat} {St : Nat → World → Prop} {w w1 : World} {n : Nat} {k : Int} {nm : ByteArray} {num lb : Int} {ty fr : Ty} {ts : List Tm} {s v8 : Value} {g1 g2 f3 : List Nat} {k1 k2 : Int} {n1 n2 c1 c2 : Nat} {a1 a2 : Option Addr} {vs us : List Value}
    (hSt : ∀ n w w', St n w → Below S0 w w' → St n w') (hnm : nm.size ≤ 9223372036854775807) (hS0 : S0 ≤ w.heap.size) (h1 : Ty.At w1 ty (.agg #[.int .i64 k1, .slice a1 n1 c1]) g1) (h2 : Ty.At w1 fr (.agg #[.int .i64 k2, .slice a2 n2 c2]) g2) (hg : Fresh (w.heap.size + 1 + 1) w1 (g1 ++ g2)) (hbx : Bx U w w1) (hst : St n w1)
    (hs : SmAt w1 ts s f3) (hf3 : Fresh (w.heap.size + 1 + 1) w1 f3) (hd : f3 = [] ∨ ∀ b ∈ g1 ++ g2, ∀ c ∈ f3, b < c)
    (hvs : vs = [.int .i64 k, .string nm, .int .i64 num, .int .i64 k1, .slice a1 n1 c1, .int .i64 k2, .slice a2 n2 c2, .int .i64 lb, s]) :
    let W := put ((put w1 w.heap.size 0 us).setCell ⟨w.heap.size, 8, none⟩ v8) (w.heap.size + 1) 0 vs
    ∃ f, (Tm.mk k nm num ty fr lb ts).At W (.agg vs.toArray) f ∧ Fresh w.heap.size W f ∧ Bx U w W ∧ St n W := by
  intro W
  subst hvs
  have ab : Above (w.heap.size + 1 + 1) w1 W := ((((Above.refl (w.heap.size + 1 + 1) w1).put (by omega)).setCell (p := ⟨w.heap.size, 8, none⟩) (by simp; omega) v8).put (by omega))
  have hbb : Below w.heap.size w1 W := below_put ((below_put (Below.refl w.heap.size w1) (Nat.le_refl _)).setCell (p := ⟨w.heap.size, 8, none⟩) (by simp) v8) (by omega)
  have q1 := h1.above ab (fun b hb => hg.ge b (by simp [hb]))
  have q2 := h2.above ab (fun b hb => hg.ge b (by simp [hb]))
  have q3 := hs.above ab hf3.ge
  refine ⟨g1 ++ (g2 ++ f3), Tm.at_mk.2 ⟨_, _, _, _, _, g1, g2, f3, rfl, hnm, q1, q2, rfl, q3⟩, ?_, hbx.trans_below hbb (Nat.le_refl _), hSt _ _ _ hst (hbb.mono hS0)⟩
  have F1 := (hg.above ab (Nat.le_refl _)).mono (B' := w.heap.size) (by omega)
  have F2 := (hf3.above ab (Nat.le_refl _)).mono (B' := w.heap.size) (by omega)
  rw [← List.append_assoc]
  refine ⟨List.nodup_append.2 ⟨F1.1, F2.1, fun a ha b hb e => ?_⟩, fun b hb => ?_⟩
  · rcases hd with rfl | hd
    · cases hb
    · have := hd a ha b hb
      omega
  · rcases List.mem_append.1 hb with hb | hb
    · exact F1.2 b hb
    · exact F2.2 b hb

/-- The loop over the operands: what stands behind j rounds. -/
def RwI (nx : Nat → Tm → Nat) (ch : Nat → Tm → Tm ⊕ (Ty × Ty)) (U : Nat) (St : Nat → World → Prop) (w : World) (M n1 : Nat) (ts : List Tm) (ty fr : Ty) (nv : List Value) (v1 v2 : Value) (g1 g2 : List Nat) (j : Nat) (f : List Nat) (wr : World) : Prop :=
  wr.heap[w.heap.size]? = some (.cells nv.toArray 35 (0, 0)) ∧ wr.heap[w.heap.size + 1]? = some (Obj.cells #[.int .i64 0, .string ByteArray.empty, .int .i64 0, .int .i64 0, .slice none 0 0, .int .i64 0, .slice none 0 0, .int .i64 0, .slice none 0 0] 35) ∧ ty.At wr v1 g1 ∧ fr.At wr v2 g2 ∧ Fresh (w.heap.size + 1 + 1) wr (g1 ++ g2) ∧ (∀ b ∈ g1 ++ g2, b < M) ∧ w.heap.size + 1 < M ∧
    BuiltM M 35 ts.length ((rwL nx ch n1 ts).take j) f wr ∧ Bx U w wr ∧ St (rwNL nx ch n1 (ts.take j)) wr

theorem RwI.start {nx : Nat → Tm → Nat} {ch : Nat → Tm → Tm ⊕ (Ty × Ty)} {U S0 : Nat} {St : Nat → World → Prop} {w w1 : World} {n1 : Nat} {ts : List Tm} {ty fr : Ty} {nv : List Value} {C : Array Value} {v1 v2 : Value} {g1 g2 : List Nat} {Z : Array Value}
    (hSt : ∀ n w w', St n w → Below S0 w w' → St n w') (hS0 : S0 ≤ w.heap.size) (hB : w1.heap[w.heap.size]? = some (.cells C 35 (0, 0))) (hov : putA C 0 nv = nv.toArray) (hZ : w1.heap[w.heap.size + 1]? = some (Obj.cells #[.int .i64 0, .string ByteArray.empty, .int .i64 0, .int .i64 0, .slice none 0 0, .int .i64 0, .slice none 0 0, .int .i64 0, .slice none 0 0] 35))
    (h1 : ty.At w1 v1 g1) (h2 : fr.At w1 v2 g2) (hg : Fresh (w.heap.size + 1 + 1) w1 (g1 ++ g2)) (hbx : Bx U w w1) (hst : St n1 w1) (hZs : Z.size = ts.length * 9) :
    RwI nx ch U St w w1.heap.size n1 ts ty fr nv v1 v2 g1 g2 0 [] ((put w1 w.heap.size 0 nv).alloc (.cells Z 35)) := by
  have hM : w.heap.size + 1 < w1.heap.size := lt_of_block hZ
  have sz : (put w1 w.heap.size 0 nv).heap.size = w1.heap.size := size_put
  have ab := (Above.refl (w.heap.size + 1 + 1) w1).put (vs := nv) (o := 0) (b := w.heap.size) (by omega)
  have hb := below_put (vs := nv) (o := 0) (Below.refl w.heap.size w1) (Nat.le_refl _)
  have hal : Below (put w1 w.heap.size 0 nv).heap.size (put w1 w.heap.size 0 nv) ((put w1 w.heap.size 0 nv).alloc (.cells Z 35)) := (Below.refl _ _).alloc (Nat.le_refl _) _
  refine ⟨blk ((heap_put hB).trans (by rw [hov])) hal, blk ((heap_put_ne (by omega)).trans hZ) hal, (h1.above ab (fun b hb => hg.ge b (by simp [hb]))).below hal, (h2.above ab (fun b hb => hg.ge b (by simp [hb]))).below hal, (hg.above ab (Nat.le_refl _)).below hal, fun b hb => (hg.2 b hb).2.1, hM, ?_, (hbx.trans_below hb (Nat.le_refl _)).alloc _, ?_⟩
  · rw [List.take_zero]
    exact BuiltM.zero (C := Z) (by rw [← sz]; exact alloc_new _ _) hZs
  · rw [List.take_zero]
    simp only [rwNL]
    exact hSt _ _ _ hst ((hb.mono hS0).trans (hal.mono (by rw [sz]; omega)))

theorem RwI.step {nx : Nat → Tm → Nat} {ch : Nat → Tm → Tm ⊕ (Ty × Ty)} {U S0 : Nat} {St : Nat → World → Prop} {w wr w2 : World} {M n1 : Nat} {ts : List Tm} {ty fr : Ty} {nv vs : List Value} {v1 v2 : Value} {g1 g2 f f' : List Nat} {j : Nat}
    (h : RwI nx ch U St w M n1 ts ty fr nv v1 v2 g1 g2 j f wr) (hSt : ∀ n w w', St n w → Below S0 w w' → St n w') (hS0 : S0 ≤ w.heap.size) (hU : U < w.heap.size) (hj : j < ts.length)
    (hat : (rwT nx ch (rwNL nx ch n1 (ts.take j)) ts[j]).At w2 (.agg vs.toArray) f') (hf : Fresh wr.heap.size w2 f') (hbx : Bx U wr w2) (hst : St (rwN nx ch (rwNL nx ch n1 (ts.take j)) ts[j]) w2) :
    RwI nx ch U St w M n1 ts ty fr nv v1 v2 g1 g2 (j + 1) (f ++ f') (put w2 M (j * 9) vs) := by
  obtain ⟨hB, hZ, h1, h2, hg, hlt, hM, hBu, hx, hs⟩ := h
  have ne1 : ∀ b ∈ g1, b ≠ U := fun b hb => by have := hg.ge b (by simp [hb]); omega
  have ne2 : ∀ b ∈ g2, b ≠ U := fun b hb => by have := hg.ge b (by simp [hb]); omega
  have q1 := (hbx.ty h1 ne1).putne (M := M) (o := j * 9) (vs := vs) (fun b hb => by have := hlt b (by simp [hb]); omega)
  have q2 := (hbx.ty h2 ne2).putne (M := M) (o := j * 9) (vs := vs) (fun b hb => by have := hlt b (by simp [hb]); omega)
  have q3 := (hbx.fresh hg (by omega)).putne (M := M) (o := j * 9) (vs := vs) (fun b hb => by have := hlt b hb; omega)
  refine ⟨(heap_put_ne (by omega)).trans (hbx.block' hB (by omega)), (heap_put_ne (by omega)).trans (hbx.block' hZ (by omega)), q1, q2, q3, hlt, hM, ?_, (hx.trans hbx).put (by omega), ?_⟩
  · rw [rwL_take nx ch hj]
    exact hBu.stepX (by rw [List.length_take, rwL_len]; omega) hj hbx (by omega) hat hf
  · rw [rwNL_take nx ch ts n1 j hj]
    exact hSt _ _ _ hst (below_put (Below.refl S0 w2) (by omega))

theorem RwI.done {nx : Nat → Tm → Nat} {ch : Nat → Tm → Tm ⊕ (Ty × Ty)} {U S0 : Nat} {St : Nat → World → Prop} {w wr : World} {M n1 : Nat} {ts : List Tm} {ty fr : Ty} {nv vs : List Value} {v8 : Value} {g1 g2 f : List Nat} {k : Int} {nm : ByteArray} {num lb : Int} {k1 k2 : Int} {n1' n2 c1 c2 : Nat} {a1 a2 : Option Addr}
    (h : RwI nx ch U St w M n1 ts ty fr nv (.agg #[.int .i64 k1, .slice a1 n1' c1]) (.agg #[.int .i64 k2, .slice a2 n2 c2]) g1 g2 ts.length f wr) (hSt : ∀ n w w', St n w → Below S0 w w' → St n w') (hnm : nm.size ≤ 9223372036854775807) (hS0 : S0 ≤ w.heap.size) (hmax : ts.length ≤ maxLen)
    (hvs : vs = [.int .i64 k, .string nm, .int .i64 num, .int .i64 k1, .slice a1 n1' c1, .int .i64 k2, .slice a2 n2 c2, .int .i64 lb, .slice (some ⟨M, 0, none⟩) ts.length ts.length]) :
    let W := put (wr.setCell ⟨w.heap.size, 8, none⟩ v8) (w.heap.size + 1) 0 vs
    ∃ f, (Tm.mk k nm num ty fr lb (rwL nx ch n1 ts)).At W (.agg vs.toArray) f ∧ Fresh w.heap.size W f ∧ Bx U w W ∧ St (rwNL nx ch n1 ts) W := by
  obtain ⟨hB, hZ, h1, h2, hg, hlt, hM, hBu, hx, hs⟩ := h
  obtain ⟨fp, hsm, hfp⟩ := hBu.done (by rw [List.length_take, rwL_len]; omega) hmax
  rw [List.take_of_length_le (by rw [rwL_len]; omega)] at hsm
  rw [List.take_of_length_le (Nat.le_refl _)] at hs
  exact rw_fin (us := []) hSt hnm hS0 h1 h2 hg hx hs hsm (hfp.mono (by omega)) (.inr fun b hb c hc => by have := hlt b hb; have := hfp.ge c hc; omega) hvs

set_option maxRecDepth 100000 in
set_option maxHeartbeats 4000000 in
theorem rewrite_of (fc : FuncId) (c0 : Value) (U S0 : Nat) (St : Nat → World → Prop) (Pre : Nat → Tm → Prop) (nx : Nat → Tm → Nat) (ch : Nat → Tm → Tm ⊕ (Ty × Ty)) (hfc : CallOkT fc) (hU : U < S0) (hCh : ChC fc c0 U S0 St Pre nx ch)
    (hSt : ∀ n w w', St n w → Below S0 w w' → St n w') (k : Int) (nm : ByteArray) (num : Int) (ty fr : Ty) (lb : Int) (ts : List Tm)
    (hPre : ∀ n x, Pre n (.mk k nm num ty fr lb ts) → ch n (.mk k nm num ty fr lb ts) = .inr x → ∀ j (h : j < ts.length), Pre (rwNL nx ch (nx n (.mk k nm num ty fr lb ts)) (ts.take j)) ts[j])
    (ih : ∀ t ∈ ts, RwC fc c0 U S0 St Pre nx ch t) : RwC fc c0 U S0 St Pre nx ch (.mk k nm num ty fr lb ts) := by
  intro n v fp w hat hpre hst hS0 hfp hsz
  have HIH := hid ih
  have HP := hid (hPre n)
  have HCH := hid hCh
  have HST := hid hSt
  clear ih hPre hCh hSt
  have hat0 := hat
  obtain ⟨k1, n1, a1, c1, k2, n2, a2, c2, a3, c3, f1, f2, f3, rfl, hnm, ht1, ht2, rfl, hs⟩ := hat.parts
  obtain ⟨a, cap, hss, hc, hm, hget⟩ := hs.open
  cases hss
  have hb0 : Below w.heap.size w ((w.alloc (Obj.cells #[.int .i64 k, .string nm, .int .i64 num, .int .i64 k1, .slice a1 n1 c1, .int .i64 k2, .slice a2 n2 c2, .int .i64 lb, .slice a3 ts.length c3] 35)).alloc (Obj.cells #[.int .i64 0, .string ByteArray.empty, .int .i64 0, .int .i64 0, .slice none 0 0, .int .i64 0, .slice none 0 0, .int .i64 0, .slice none 0 0] 35)) := ((Below.refl _ _).alloc (Nat.le_refl _) _).alloc (by simp) _
  have HCALL := hid (HCH.out n k nm num ty fr lb ts k1 n1 a1 c1 k2 n2 a2 c2 a3 c3 _ ((w.alloc (Obj.cells #[.int .i64 k, .string nm, .int .i64 num, .int .i64 k1, .slice a1 n1 c1, .int .i64 k2, .slice a2 n2 c2, .int .i64 lb, .slice a3 ts.length c3] 35)).alloc (Obj.cells #[.int .i64 0, .string ByteArray.empty, .int .i64 0, .int .i64 0, .slice none 0 0, .int .i64 0, .slice none 0 0, .int .i64 0, .slice none 0 0] 35)) (hat0.below hb0) hpre (HST.out _ _ _ hst (hb0.mono hS0)) (by simp; omega) hfp)
  have HPRE := hid hpre
  have HTN := hid (show rwT nx ch n (.mk k nm num ty fr lb ts) = match ch n (.mk k nm num ty fr lb ts) with | .inl u => u | .inr x => .mk k nm num x.1 x.2 lb (rwL nx ch (nx n (.mk k nm num ty fr lb ts)) ts) by rw [rwT])
  have HNN := hid (show rwN nx ch n (.mk k nm num ty fr lb ts) = match ch n (.mk k nm num ty fr lb ts) with | .inl _ => nx n (.mk k nm num ty fr lb ts) | .inr _ => rwNL nx ch (nx n (.mk k nm num ty fr lb ts)) ts by rw [rwN])
  have HSZ := hid (show ts.length + szML ts ≤ 1048576 by simp only [Tm.sz] at hsz; omega)
  have HU := hid (show U < w.heap.size by omega)
  have HG := hid hget
  have HB0 := hid hb0
  have HS0 := hid hS0
  have HFC := hid hfc
  have HNM := hid hnm
  have hblk : ∀ b o, a3 = some ⟨b, o, none⟩ → 0 < ts.length → b ∈ f3 := fun b o e hp => by
    rcases hs with ⟨h0, _⟩ | ⟨b', o', cap', f, e', _, _, _, _, rfl⟩
    · rw [h0] at hp; simp at hp
    · rw [e] at e'
      cases e'
      simp
  have HBK := hid hblk
  clear hblk
  have HF3 := hid (show ∀ b ∈ f3, b ≠ U from fun b hb => hfp b (by simp [hb]))
  have hs0 : (((w.alloc (Obj.cells #[.int .i64 k, .string nm, .int .i64 num, .int .i64 k1, .slice a1 n1 c1, .int .i64 k2, .slice a2 n2 c2, .int .i64 lb, .slice a3 ts.length c3] 35)).alloc (Obj.cells #[.int .i64 0, .string ByteArray.empty, .int .i64 0, .int .i64 0, .slice none 0 0, .int .i64 0, .slice none 0 0, .int .i64 0, .slice none 0 0] 35))).heap.size = w.heap.size + 1 + 1 := by simp
  have HZ0 := hid hs0
  clear hat hat0 ht1 ht2 hs hget hpre hst hsz hfp hb0 hS0 hs0 hfc hnm
  generalize hn1 : nx n (.mk k nm num ty fr lb ts) = nn at *
  cases hch : ch n (.mk k nm num ty fr lb ts) with
  | inl u =>
    rw [hch] at HCALL HTN HNN
    rw [HTN.out, HNN.out]
    clear HTN HNN hch HP HPRE HCH
    have hfc := HFC.out
    unfold CallOkT at hfc
    go_enter Tryd.func161, Tryd.ntmps161
    go_wp2_with fail
    refine HCALL.out.mono ?_
    rintro e w1 ⟨v', f', rfl, hu, hf, hbx, hst1⟩
    obtain ⟨r0, r1, r2, r3, r4, r5, r6, r7, r8, r9, r10, r11, r12, r13, r14, rfl⟩ := hu.agg
    obtain ⟨hB, hZ⟩ := boxes_bx HU.out hbx
    obtain ⟨x0, x1, x2, x3, x4, x5, x6, x7, x8⟩ := cells9 hB
    obtain ⟨y0, y1, y2, y3, y4, y5, y6, y7, y8⟩ := cells9 hZ
    have xz := fun o => frozen_of_block (o := o) hB
    have yz := fun o => frozen_of_block (o := o) hZ
    have hM : w.heap.size + 1 < w1.heap.size := lt_of_block hZ
    rw [HZ0.out] at hf
    have ab : Above (w.heap.size + 1 + 1) w1 (put (put w1 w.heap.size 0 [.int .i64 r0, .string r1, .int .i64 r2, .int .i64 r3, .slice r5 r4 r6, .int .i64 r7, .slice r9 r8 r10, .int .i64 r11, .slice r13 r12 r14]) (w.heap.size + 1) 0 [.int .i64 r0, .string r1, .int .i64 r2, .int .i64 r3, .slice r5 r4 r6, .int .i64 r7, .slice r9 r8 r10, .int .i64 r11, .slice r13 r12 r14]) := ((Above.refl (w.heap.size + 1 + 1) w1).put (by omega)).put (by omega)
    have hbb : Below w.heap.size w1 (put (put w1 w.heap.size 0 [.int .i64 r0, .string r1, .int .i64 r2, .int .i64 r3, .slice r5 r4 r6, .int .i64 r7, .slice r9 r8 r10, .int .i64 r11, .slice r13 r12 r14]) (w.heap.size + 1) 0 [.int .i64 r0, .string r1, .int .i64 r2, .int .i64 r3, .slice r5 r4 r6, .int .i64 r7, .slice r9 r8 r10, .int .i64 r11, .slice r13 r12 r14]) := below_put (below_put (Below.refl w.heap.size w1) (Nat.le_refl _)) (by omega)
    have FIN := hid (show RwOut U St w nn u (.returned (.agg (Array.mk [.int .i64 r0, .string r1, .int .i64 r2, .int .i64 r3, .slice r5 r4 r6, .int .i64 r7, .slice r9 r8 r10, .int .i64 r11, .slice r13 r12 r14]))) (put (put w1 w.heap.size 0 [.int .i64 r0, .string r1, .int .i64 r2, .int .i64 r3, .slice r5 r4 r6, .int .i64 r7, .slice r9 r8 r10, .int .i64 r11, .slice r13 r12 r14]) (w.heap.size + 1) 0 [.int .i64 r0, .string r1, .int .i64 r2, .int .i64 r3, .slice r5 r4 r6, .int .i64 r7, .slice r9 r8 r10, .int .i64 r11, .slice r13 r12 r14]) from ⟨_, f', rfl, hu.above ab hf.ge, (hf.above ab (Nat.le_refl _)).mono (by omega), ((Bx.of_below HB0.out).trans hbx).trans_below hbb (Nat.le_refl _), HST.out _ _ _ hst1 (hbb.mono HS0.out)⟩)
    clear hB hZ hu hf hbx hst1 HB0 HZ0 HCALL HG HIH hc hm hfc ab hbb
    go_wp2_with fail
    exact bodyPost_ret (v := .agg (Array.mk [.int .i64 r0, .string r1, .int .i64 r2, .int .i64 r3, .slice r5 r4 r6, .int .i64 r7, .slice r9 r8 r10, .int .i64 r11, .slice r13 r12 r14])) (by simp [results, Tryd.results161, go_sem, y0, y1, y2, y3, y4, y5, y6, y7, y8]) rfl FIN.out
  | inr x =>
    obtain ⟨ty', fr'⟩ := x
    rw [hch] at HCALL HTN HNN
    have HPK := hid (HP.out _ HPRE.out hch)
    rw [HTN.out, HNN.out]
    clear HTN HNN hch HP HPRE HCH
    have hfc := HFC.out
    unfold CallOkT at hfc
    by_cases h0 : ts.length = 0
    · have htn : ts = [] := List.length_eq_zero_iff.1 h0
      subst htn
      go_enter Tryd.func161, Tryd.ntmps161
      go_wp2_with fail
      refine HCALL.out.mono ?_
      rintro e w1 ⟨j1, m1, p1, d1, j2, m2, p2, d2, g1, g2, rfl, hv1, hv2, hg, hbx, hst1⟩
      obtain ⟨hB, hZ⟩ := boxes_bx HU.out hbx
      obtain ⟨x0, x1, x2, x3, x4, x5, x6, x7, x8⟩ := cells9 hB
      obtain ⟨y0, y1, y2, y3, y4, y5, y6, y7, y8⟩ := cells9 hZ
      have xz := fun o => frozen_of_block (o := o) hB
      have yz := fun o => frozen_of_block (o := o) hZ
      have hM : w.heap.size + 1 < w1.heap.size := lt_of_block hZ
      rw [HZ0.out] at hg
      have FIN := hid (fun (v8 : Value) => rw_fin (S0 := S0) (St := St) (U := U) (w := w) (k := k) (nm := nm) (num := num) (lb := lb) (vs := [.int .i64 k, .string nm, .int .i64 num, .int .i64 j1, .slice p1 m1 d1, .int .i64 j2, .slice p2 m2 d2, .int .i64 lb, .slice none 0 0]) (us := [.int .i64 k, .string nm, .int .i64 num, .int .i64 j1, .slice p1 m1 d1, .int .i64 j2, .slice p2 m2 d2, .int .i64 lb, .slice a3 0 c3]) (ts := []) (s := .slice none 0 0) (f3 := []) (v8 := v8) HST.out HNM.out HS0.out hv1 hv2 (by simpa using hg) ((Bx.of_below HB0.out).trans hbx) hst1 (.inl ⟨rfl, rfl, _, _, rfl⟩) (Fresh.nil _ _) (.inl rfl) rfl)
      have HBZ := hid (And.intro hB hZ)
      clear hB hZ hv1 hv2 hg hbx hst1 HB0 HZ0 HCALL HG HIH HPK hc hm h0 hfc
      go_wp2_with fail
      go_loop [27] (fun i => i = .int .i64 0) (fun _ => 0)
      case atStart => rfl
      case round =>
        obtain rfl := hrel
        clear x0 x1 x2 x3 x4 x5 x6 x7 x8 y0 y1 y2 y3 y4 y5 y6 y7 y8 xz yz hM
        generalize hW2 : (((((((((w1.setCell ⟨w.heap.size, 0, none⟩ (.int .i64 k)).setCell ⟨w.heap.size, 1, none⟩ (.string nm)).setCell ⟨w.heap.size, 2, none⟩ (.int .i64 num)).setCell ⟨w.heap.size, 3, none⟩ (.int .i64 j1)).setCell ⟨w.heap.size, 4, none⟩ (.slice p1 m1 d1)).setCell ⟨w.heap.size, 5, none⟩ (.int .i64 j2)).setCell ⟨w.heap.size, 6, none⟩ (.slice p2 m2 d2)).setCell ⟨w.heap.size, 7, none⟩ (.int .i64 lb)).setCell ⟨w.heap.size, 8, none⟩ (.slice a3 0 c3)) = W2
        have e2 : W2 = put w1 w.heap.size 0 [.int .i64 k, .string nm, .int .i64 num, .int .i64 j1, .slice p1 m1 d1, .int .i64 j2, .slice p2 m2 d2, .int .i64 lb, .slice a3 0 c3] := by rw [← hW2]; simp only [put, Nat.zero_add, Nat.reduceAdd]
        have hB2 : W2.heap[w.heap.size]? = some (.cells (Array.mk [.int .i64 k, .string nm, .int .i64 num, .int .i64 j1, .slice p1 m1 d1, .int .i64 j2, .slice p2 m2 d2, .int .i64 lb, .slice a3 0 c3]) 35 (0, 0)) := by
          rw [e2, heap_put HBZ.out.1]
          simp only [putA, List.setIfInBounds_toArray, List.set]
        have hZ2 : W2.heap[w.heap.size + 1]? = some (Obj.cells #[.int .i64 0, .string ByteArray.empty, .int .i64 0, .int .i64 0, .slice none 0 0, .int .i64 0, .slice none 0 0, .int .i64 0, .slice none 0 0] 35) := by rw [e2, heap_put_ne (by omega)]; exact HBZ.out.2
        obtain ⟨x0, x1, x2, x3, x4, x5, x6, x7, x8⟩ := cells9 hB2
        obtain ⟨y0, y1, y2, y3, y4, y5, y6, y7, y8⟩ := cells9 hZ2
        have xz := fun o => frozen_of_block (o := o) hB2
        have yz := fun o => frozen_of_block (o := o) hZ2
        have hM : w.heap.size + 1 < W2.heap.size := lt_of_block hZ2
        rw [← e2] at FIN
        clear hB2 hZ2 HBZ e2 hW2
        go_wp2_with fail
        obtain ⟨ff, q1, q2, q3, q4⟩ := FIN.out (.slice none 0 0)
        have e0 : rwL nx ch nn [] = [] := by simp only [rwL]
        have e1 : rwNL nx ch nn [] = nn := by simp only [rwNL]
        exact bodyPost_ret (v := .agg #[.int .i64 k, .string nm, .int .i64 num, .int .i64 j1, .slice p1 m1 d1, .int .i64 j2, .slice p2 m2 d2, .int .i64 lb, .slice none 0 0]) (by simp [results, Tryd.results161, go_sem, y0, y1, y2, y3, y4, y5, y6, y7, y8]) rfl ⟨_, ff, rfl, by rw [e0]; exact q1, q2, q3, by rw [e1]; exact q4⟩
    · have hpos : 0 < ts.length := by omega
      have hpos' : (0 : Int) < (ts.length : Int) := by omega
      clear h0
      obtain ⟨Z, hZs, hmk⟩ : ∃ Z : Array Value, Z.size = ts.length * 9 ∧ ∀ w : World, (Instr.makeSlice 33 (.int .i64 (ts.length : Int)) (.int .i64 (ts.length : Int))).run Tryd.prog w = .ok (.slice (some ⟨w.heap.size, 0, none⟩) ts.length ts.length) (w.alloc (.cells Z 35)) := by
        have hN := HSZ.out
        obtain ⟨i0, hi, hz0, hz1, hz2⟩ := info_parts (P := Tryd.prog) (e := 35) Tryd.infoTm
        have r := fun w : World => run_make w _ _ i0 _ Tryd.underTms hi hz0 .i64 .i64 (ts.length : Int) (ts.length : Int) (by omega) (by omega) (by rw [hz2]; omega) (by omega)
        simp only [Int.toNat_natCast, hz1] at r
        exact ⟨_, size_madeCells _ _, r⟩
      have HZZ := hid hZs
      clear hZs
      go_enter Tryd.func161, Tryd.ntmps161
      go_wp2_with fail
      refine HCALL.out.mono ?_
      rintro e w1 ⟨j1, m1, p1, d1, j2, m2, p2, d2, g1, g2, rfl, hv1, hv2, hg, hbx, hst1⟩
      obtain ⟨hB, hZ⟩ := boxes_bx HU.out hbx
      obtain ⟨x0, x1, x2, x3, x4, x5, x6, x7, x8⟩ := cells9 hB
      have xz := fun o => frozen_of_block (o := o) hB
      have hM : w.heap.size + 1 < w1.heap.size := lt_of_block hZ
      rw [HZ0.out] at hg
      have HST1 := hid (RwI.start (nx := nx) (ch := ch) (ts := ts) (nv := [.int .i64 k, .string nm, .int .i64 num, .int .i64 j1, .slice p1 m1 d1, .int .i64 j2, .slice p2 m2 d2, .int .i64 lb, .slice a3 ts.length c3]) HST.out HS0.out hB (by simp only [putA, List.setIfInBounds_toArray, List.set]) hZ hv1 hv2 hg ((Bx.of_below HB0.out).trans hbx) hst1 HZZ.out)
      clear hB hZ hv1 hv2 hg hbx hst1 HB0 HZ0 HCALL hfc
      go_wp2_with fail
      go_loopw [27] (fun i wr => ∃ (j : Nat) (f : List Nat), j ≤ ts.length ∧ i = .int .i64 j ∧ RwI nx ch U St w w1.heap.size nn ts ty' fr' [.int .i64 k, .string nm, .int .i64 num, .int .i64 j1, .slice p1 m1 d1, .int .i64 j2, .slice p2 m2 d2, .int .i64 lb, .slice a3 ts.length c3] (.agg #[.int .i64 j1, .slice p1 m1 d1]) (.agg #[.int .i64 j2, .slice p2 m2 d2]) g1 g2 j f wr) (fun i _ => ts.length - (intOf i).toNat)
      case atStart => exact ⟨0, [], Nat.zero_le _, rfl, HST1.out⟩
      case round =>
        obtain ⟨j, f, hj, rfl, hI⟩ := hrel
        clear x0 x1 x2 x3 x4 x5 x6 x7 x8 xz
        have hI0 := hI
        obtain ⟨hB, hZ, -, -, -, -, -, hBu, hx, hs⟩ := hI0
        obtain ⟨x0, x1, x2, x3, x4, x5, x6, x7, x8⟩ := cells9 hB
        have xz := fun o => frozen_of_block (o := o) hB
        have HI := hid hI
        have HX := hid hx
        have HS := hid hs
        clear hI hx hs
        by_cases hlk : j < ts.length
        · obtain ⟨b, o, q0, q1, q2, q3, q4, q5, q6, q7, q8, q9, q10, q11, q12, q13, q14, fk, rfl, hblt, c0, c1', c2', c3', c4, c5, c6, c7, c8, hatk, hfk⟩ := HG.out j hlk
          have hbU : b ≠ U := HF3.out b (HBK.out b o rfl hpos)
          have d0 := HX.out.cell c0 hbU
          have e1 := HX.out.cell c1' hbU
          have e2 := HX.out.cell c2' hbU
          have d3 := HX.out.cell c3' hbU
          have d4 := HX.out.cell c4 hbU
          have d5 := HX.out.cell c5 hbU
          have d6 := HX.out.cell c6 hbU
          have d7 := HX.out.cell c7 hbU
          have d8 := HX.out.cell c8 hbU
          have HATK := hid (HX.out.tm hatk (fun x hx => HF3.out x (hfk x hx)))
          have hszk : ts[j].sz ≤ 1048576 := by have := HSZ.out; have := sz_mem (List.getElem_mem hlk); omega
          have hS0r : S0 ≤ wr.heap.size := Nat.le_trans HS0.out HX.out.size
          have HBU := hid hBu
          clear c0 c1' c2' c3' c4 c5 c6 c7 c8 hatk hB hZ hBu
          go_wp2_with fail
          refine (HIH.out _ (List.getElem_mem hlk) _ _ _ _ HATK.out (HPK.out j hlk) HS.out hS0r (fun x hx => HF3.out x (hfk x hx)) hszk).mono ?_
          rintro e w2 ⟨v', f', rfl, hat', hf', hbx', hst'⟩
          obtain ⟨r0, r1, r2, r3, r4, r5, r6, r7, r8, r9, r10, r11, r12, r13, r14, rfl⟩ := hat'.agg
          obtain ⟨⟨y0, y1, y2, y3, y4, y5, y6, y7, y8, z0, z1, z2, z3, z4, z5, z6, z7, z8⟩, zz⟩ := (HBU.out.bx hbx' (by have := HU.out; omega)).cells hlk (Below.refl _ _)
          have HI2 := hid (HI.out.step (vs := [.int .i64 r0, .string r1, .int .i64 r2, .int .i64 r3, .slice r5 r4 r6, .int .i64 r7, .slice r9 r8 r10, .int .i64 r11, .slice r13 r12 r14]) HST.out HS0.out HU.out hlk hat' hf' hbx' hst')
          clear d0 e1 e2 d3 d4 d5 d6 d7 d8 x0 x1 x2 x3 x4 x5 x6 x7 x8 xz hat' hf' hbx' hst'
          go_wp2_with fail
          exact ⟨⟨j + 1, _, by omega, by go_num, HI2.out⟩, by simp [intOf]; omega⟩
        · obtain rfl : j = ts.length := by omega
          obtain ⟨y0, y1, y2, y3, y4, y5, y6, y7, y8⟩ := cells9 hZ
          have yz := fun o => frozen_of_block (o := o) hZ
          have hMr : w.heap.size + 1 < wr.heap.size := lt_of_block hZ
          have FIN := hid (fun (v8 : Value) => HI.out.done (v8 := v8) (k := k) (nm := nm) (num := num) (lb := lb) (vs := [.int .i64 k, .string nm, .int .i64 num, .int .i64 j1, .slice p1 m1 d1, .int .i64 j2, .slice p2 m2 d2, .int .i64 lb, .slice (some ⟨w1.heap.size, 0, none⟩) ts.length ts.length]) HST.out HNM.out HS0.out (by unfold maxLen; omega) rfl)
          clear hB hZ hBu HI HX HS
          go_wp2_with fail
          obtain ⟨ff, q1, q2, q3, q4⟩ := FIN.out (.slice (some ⟨w1.heap.size, 0, none⟩) ts.length ts.length)
          exact bodyPost_ret (v := .agg #[.int .i64 k, .string nm, .int .i64 num, .int .i64 j1, .slice p1 m1 d1, .int .i64 j2, .slice p2 m2 d2, .int .i64 lb, .slice (some ⟨w1.heap.size, 0, none⟩) ts.length ts.length]) (by simp [results, Tryd.results161, go_sem, y0, y1, y2, y3, y4, y5, y6, y7, y8]) rfl ⟨_, ff, rfl, q1, q2, q3, q4⟩

def hasTy (k : Int) : Bool := decide (k = 5 ∨ k = 13)

def wtNx (n : Nat) : Tm → Nat
  | .mk k _ _ _ _ _ _ => if hasTy k then n + 1 else n
def wtCh (T : Nat → Ty) (n : Nat) : Tm → Tm ⊕ (Ty × Ty)
  | .mk k _ _ ty fr _ _ => .inr (if hasTy k then T n else ty, fr)

def WtPre (N n : Nat) (t : Tm) : Prop := (∃ d, shpM d t = true) ∧ n + (tysOf t).length ≤ N

/-- What a choice says. -/
def ChoOut (U : Nat) (St : Nat → World → Prop) (w : World) (n' : Nat) (t : Ty) (e : Ending) (w' : World) : Prop :=
  ∃ k m a c f, e = .returned (.agg #[.int .i64 k, .slice a m c]) ∧ t.At w' (.agg #[.int .i64 k, .slice a m c]) f ∧ Fresh w.heap.size w' f ∧ Bx U w w' ∧ St n' w'

theorem node_of {d : Nat} {k : Int} {nm : ByteArray} {num : Int} {ty fr : Ty} {lb : Int} {ts : List Tm} (h : shpM d (.mk k nm num ty fr lb ts) = true) : 1 ≤ k ∧ k ≤ 13 ∧ okTy ty ∧ okTy fr ∧ (hasTy k = true → vld ty = true) ∧ ∀ t ∈ ts, ∃ d, shpM d t = true := by
  cases d with
  | zero => simp [shpM] at h
  | succ d =>
    simp only [shpM, Bool.and_eq_true, List.all_eq_true, bne_iff_ne, ne_eq, beq_iff_eq] at h
    obtain ⟨⟨⟨hk, h14⟩, ho⟩, hkids⟩ := h
    have hk1 : 1 ≤ k ∧ k ≤ 13 := by
      unfold kidsM at hk
      split at hk
      · omega
      · split at hk
        · omega
        · split at hk
          · omega
          · split at hk
            · omega
            · omega
    simp only [ownM, Bool.and_eq_true] at ho
    have h3 := ho.1.2
    have h2 := ho.1.1.2
    have hfr : noTy fr = true := by
      have : (k == 14) = false := by simpa using h14
      rw [this, Bool.false_or, Bool.and_eq_true] at h3
      exact h3.1
    refine ⟨hk1.1, hk1.2, ?_, .inr hfr, ?_, fun t ht => ⟨d, hkids t ht⟩⟩
    · split at h2
      · exact .inl (wf_of_vld h2)
      · exact .inr h2
    · intro hT
      rw [if_pos (by simp only [hasTy, decide_eq_true_eq] at hT; omega)] at h2
      exact h2

set_option maxRecDepth 100000 in
set_option maxHeartbeats 4000000 in
theorem wet_any (g : FuncId) (caps : Array Value) (U S0 C N : Nat) (St : Nat → World → Prop) (T : Nat → Ty) (hg : CallOkT g) (hU : U < S0) (hCS : C < S0) (hSt : ∀ n w w', St n w → Below S0 w w' → St n w')
    (hC : ∀ n w, St n w → w.cell? ⟨C, 0, none⟩ = some (.func (.func g) #[] caps)) (hFm : ∀ n w, St n w → Forms w)
    (hCho : ∀ n k a m c w, St n w → n < N → S0 ≤ w.heap.size → Calls Tryd.prog g (#[.agg #[.int .i64 k, .slice a m c]] ++ caps) w (ChoOut U St w (n + 1) (T n))) :
    ChC 162 (.pointer (some ⟨C, 0, none⟩)) U S0 St (WtPre N) wtNx (wtCh T) := by
  intro n k nm num ty fr lb ts k1 n1 a1 c1 k2 n2 a2 c2 a3 c3 fp w hat hpre hst hS0 hfp
  obtain ⟨⟨d, hsh⟩, hN⟩ := hpre
  obtain ⟨hk1, hk2, hty, hfr, -, -⟩ := node_of hsh
  obtain ⟨jk, rfl⟩ : ∃ j : Nat, k = (j : Int) := ⟨k.toNat, by omega⟩
  have hj1 : 1 ≤ jk := by omega
  have hj2 : jk < 14 := by omega
  have hshow := (frm_shows13 jk hj1 hj2).2.2
  have hHT : hasTy (jk : Int) = decide (jk = 5 ∨ jk = 13) := by unfold hasTy; congr 1; apply propext; omega
  have hNN : hasTy (jk : Int) = true → n < N := fun h => by
    simp only [tysOf, hasTy, decide_eq_true_eq] at hN h
    rw [if_pos h] at hN
    simp only [List.length_append, List.length_cons] at hN
    omega
  obtain ⟨k1', n1', a1', c1', k2', n2', a2', c2', a3', c3', f1, f2, f3, hv, hnm, ht1, ht2, -, -⟩ := hat.parts
  simp only [Value.agg.injEq, Array.mk.injEq, List.cons.injEq, and_true, Value.int.injEq, Value.slice.injEq, true_and] at hv
  obtain ⟨rfl, ⟨rfl, rfl, rfl⟩, rfl, ⟨rfl, rfl, rfl⟩, rfl, rfl⟩ := hv
  have hb0 : Below w.heap.size w ((w.alloc (Obj.cells #[.int .i64 (jk : Int), .string nm, .int .i64 num, .int .i64 k1, .slice a1 n1 c1, .int .i64 k2, .slice a2 n2 c2, .int .i64 lb, .slice a3 ts.length c3] 35)).alloc (Obj.cells #[.int .i64 0, .string ByteArray.empty, .int .i64 0, .int .i64 0, .slice none 0 0, .int .i64 0, .slice none 0 0, .int .i64 0, .slice none 0 0] 35)) := ((Below.refl _ _).alloc (Nat.le_refl _) _).alloc (by simp) _
  have hform := hFm _ _ hst jk (by omega)
  have HCP := hid (copyNode_any jk nm num ty fr lb a3 ts.length c3 k1 k2 n1 n2 c1 c2 a1 a2 f1 f2 _ (ht1.below hb0) (ht2.below hb0) hty hfr)
  have HCELL := hid (hC _ _ hst)
  have HST := hid hst
  have HSTB := hid hSt
  have HCHO := hid (fun k a m c w h1 h2 => hCho n k a m c w h1 h2)
  have HB0 := hid hb0
  have HTN := hid hHT
  have HNN := hid hNN
  have hs0 : (((w.alloc (Obj.cells #[.int .i64 (jk : Int), .string nm, .int .i64 num, .int .i64 k1, .slice a1 n1 c1, .int .i64 k2, .slice a2 n2 c2, .int .i64 lb, .slice a3 ts.length c3] 35)).alloc (Obj.cells #[.int .i64 0, .string ByteArray.empty, .int .i64 0, .int .i64 0, .slice none 0 0, .int .i64 0, .slice none 0 0, .int .i64 0, .slice none 0 0] 35))).heap.size = w.heap.size + 1 + 1 := by simp
  have HZ0 := hid hs0
  have HS0 := hid hS0
  have HG := hid hg
  have HU := hid (show U < w.heap.size ∧ C < w.heap.size by omega)
  generalize hfrm : frm jk = form at *
  clear hat hfp hst hSt hC hFm hCho hsh hN hk1 hk2 hty hfr hHT hNN ht1 ht2 hb0 hs0 hS0 hg hfrm
  have fm0 := cell_keep hform HB0.out
  have hG0 : 0 < w.heap.size := World.block_lt_of_cell? _ _ hform
  suffices hgoal : ∀ P : Ending → World → Prop, (∀ e w', ChOut U St w (wtNx n (.mk (jk : Int) nm num ty fr lb ts)) (jk : Int) nm num lb (.slice a3 ts.length c3) e w' (wtCh T n (.mk (jk : Int) nm num ty fr lb ts)) → P e w') → Calls Tryd.prog 162 #[(.agg #[.int .i64 (jk : Int), .string nm, .int .i64 num, .int .i64 k1, .slice a1 n1 c1, .int .i64 k2, .slice a2 n2 c2, .int .i64 lb, .slice a3 ts.length c3]), .pointer (some ⟨C, 0, none⟩)] w P from hgoal _ (fun _ _ h => h)
  intro P hP
  have HP := hid hP
  clear hP
  go_enter Tryd.func162, Tryd.ntmps162
  go_wp2_with fail
  refine HCP.out.mono ?_
  rintro e w1 ⟨j1, m1, p1, d1, j2, m2, p2, d2, g1, g2, rfl, hv1, hv2, hgf, hb1⟩
  obtain ⟨hB, hZ⟩ := two_out hb1
  obtain ⟨x0, x1, x2, x3, x4, x5, x6, x7, x8⟩ := cells9 hB
  have xz := fun o => frozen_of_block (o := o) hB
  have hM : w.heap.size + 1 < w1.heap.size := lt_of_block hZ
  have fm := cell_keep fm0 hb1
  have HBL := hid (show Below w.heap.size w w1 from below_trans HB0.out hb1)
  have HBB := hid hB
  have HZZ := hid hZ
  rw [HZ0.out] at hgf
  have HV := hid (And.intro hv1 (And.intro hv2 hgf))
  clear hb1 hB hZ hv1 hv2 hgf HCP fm0 hform HB0 HZ0
  go_wp2_with fail
  refine (shows_any form 116 _).mono ?_
  rintro e w2 ⟨rfl, hw2⟩
  have e2 : w2 = put w1 w.heap.size 0 [.int .i64 (jk : Int), .string nm, .int .i64 num, .int .i64 j1, .slice p1 m1 d1, .int .i64 j2, .slice p2 m2 d2, .int .i64 lb, .slice a3 ts.length c3] := by rw [hw2]; simp only [put, Nat.zero_add, Nat.reduceAdd]
  have hB2 : w2.heap[w.heap.size]? = some (.cells (Array.mk [.int .i64 (jk : Int), .string nm, .int .i64 num, .int .i64 j1, .slice p1 m1 d1, .int .i64 j2, .slice p2 m2 d2, .int .i64 lb, .slice a3 ts.length c3]) 35 (0, 0)) := by
    rw [e2, heap_put HBB.out]
    simp only [putA, List.setIfInBounds_toArray, List.set]
  have hZ2 : w2.heap[w.heap.size + 1]? = some (Obj.cells #[.int .i64 0, .string ByteArray.empty, .int .i64 0, .int .i64 0, .slice none 0 0, .int .i64 0, .slice none 0 0, .int .i64 0, .slice none 0 0] 35) := by rw [e2, heap_put_ne (by omega)]; exact HZZ.out
  have b2 : Below w.heap.size w w2 := by rw [e2]; exact below_put HBL.out (Nat.le_refl _)
  have ab2 : Above (w.heap.size + 1 + 1) w1 w2 := by rw [e2]; exact (Above.refl _ _).put (by omega)
  have q1 := HV.out.1.above ab2 (fun b hb => HV.out.2.2.ge b (by simp [hb]))
  have q2 := HV.out.2.1.above ab2 (fun b hb => HV.out.2.2.ge b (by simp [hb]))
  have F2 := HV.out.2.2.above ab2 (Nat.le_refl _)
  clear e2 hw2 ab2 HV HBB HZZ HBL x0 x1 x2 x3 x4 x5 x6 x7 x8 xz hM fm
  obtain ⟨x0, x1, x2, x3, x4, x5, x6, x7, x8⟩ := cells9 hB2
  obtain ⟨y0, y1, y2, y3, y4, y5, y6, y7, y8⟩ := cells9 hZ2
  have xz := fun o => frozen_of_block (o := o) hB2
  have yz := fun o => frozen_of_block (o := o) hZ2
  have hM : w.heap.size + 1 < w2.heap.size := lt_of_block hZ2
  by_cases hj : jk = 5 ∨ jk = 13
  · have hsb : showsB form 116 = true := by rw [hshow]; simpa using hj
    have hht : hasTy (jk : Int) = true := by rw [HTN.out]; simpa using hj
    have HN := hid (HNN.out hht)
    have HH := hid hht
    rw [hsb]
    have hst2 := HSTB.out _ _ _ HST.out (b2.mono HS0.out)
    have cc := cell_keep HCELL.out b2
    have hg := HG.out
    unfold CallOkT at hg
    have hSw : S0 ≤ w2.heap.size := by have := HS0.out; have := b2.size; omega
    clear hsb hht hshow
    go_wp2_with fail
    refine (HCHO.out j1 p1 m1 d1 w2 hst2 HN.out hSw).mono ?_
    rintro e w3 ⟨kq, mq, aq, cq, fq, rfl, hvq, hfq, hbx3, hst3⟩
    have hUl := HU.out
    have hB3 := hbx3.block' hB2 (by omega)
    have hZ3 := hbx3.block' hZ2 (by omega)
    have r2 := hbx3.ty q2 (fun b hb => by have := F2.ge b (by simp [hb]); omega)
    have G2 : Fresh (w.heap.size + 1 + 1) w2 g2 := ⟨(List.nodup_append.1 F2.1).2.1, fun b hb => F2.2 b (by simp [hb])⟩
    have G3 := hbx3.fresh G2 (by omega)
    have FQ : Fresh (w.heap.size + 1 + 1) w3 (fq ++ g2) := by
      refine ⟨List.nodup_append.2 ⟨hfq.1, G3.1, fun a ha b hb e => ?_⟩, fun b hb => ?_⟩
      · have := hfq.ge a ha
        have := (G2.2 b hb).2.1
        omega
      · rcases List.mem_append.1 hb with hb | hb
        · exact ⟨by have := hfq.ge b hb; omega, (hfq.2 b hb).2⟩
        · exact G3.2 b hb
    have ab3 : Above (w.heap.size + 1 + 1) w3 (put ((w3.setCell ⟨w.heap.size, 3, none⟩ (.int .i64 kq)).setCell ⟨w.heap.size, 4, none⟩ (.slice aq mq cq)) (w.heap.size + 1) 0 [.int .i64 (jk : Int), .string nm, .int .i64 num, .int .i64 kq, .slice aq mq cq, .int .i64 j2, .slice p2 m2 d2, .int .i64 lb, .slice a3 ts.length c3]) := (((Above.refl _ _).setCell (by simp; omega) _).setCell (by simp; omega) _).put (by omega)
    have bb3 : Below w.heap.size w3 (put ((w3.setCell ⟨w.heap.size, 3, none⟩ (.int .i64 kq)).setCell ⟨w.heap.size, 4, none⟩ (.slice aq mq cq)) (w.heap.size + 1) 0 [.int .i64 (jk : Int), .string nm, .int .i64 num, .int .i64 kq, .slice aq mq cq, .int .i64 j2, .slice p2 m2 d2, .int .i64 lb, .slice a3 ts.length c3]) := below_put (((Below.refl _ _).setCell (by simp) _).setCell (by simp) _) (by omega)
    have FIN := hid (show ChOut U St w (wtNx n (.mk (jk : Int) nm num ty fr lb ts)) (jk : Int) nm num lb (.slice a3 ts.length c3) (.returned (.tuple #[.agg (Array.mk [.int .i64 (jk : Int), .string nm, .int .i64 num, .int .i64 kq, .slice aq mq cq, .int .i64 j2, .slice p2 m2 d2, .int .i64 lb, .slice a3 ts.length c3]), .bool true])) (put ((w3.setCell ⟨w.heap.size, 3, none⟩ (.int .i64 kq)).setCell ⟨w.heap.size, 4, none⟩ (.slice aq mq cq)) (w.heap.size + 1) 0 [.int .i64 (jk : Int), .string nm, .int .i64 num, .int .i64 kq, .slice aq mq cq, .int .i64 j2, .slice p2 m2 d2, .int .i64 lb, .slice a3 ts.length c3]) (wtCh T n (.mk (jk : Int) nm num ty fr lb ts)) from by
      simp only [wtNx, wtCh, HH.out, ↓reduceIte, ChOut]
      exact ⟨_, _, _, _, _, _, _, _, fq, g2, rfl, hvq.above ab3 (fun b hb => FQ.ge b (by simp [hb])), r2.above ab3 (fun b hb => FQ.ge b (by simp [hb])), (FQ.above ab3 (Nat.le_refl _)).mono (by omega), ((Bx.of_below b2).trans hbx3).trans_below bb3 (Nat.le_refl _), HSTB.out _ _ _ hst3 (bb3.mono HS0.out)⟩)
    clear x0 x1 x2 x3 x4 x5 x6 x7 x8 y0 y1 y2 y3 y4 y5 y6 y7 y8 xz yz hM q1 q2 F2 hB2 hZ2 b2 hst2 cc hg hvq hfq hbx3 hst3 r2 G2 G3 FQ ab3 bb3
    obtain ⟨x0, x1, x2, x3, x4, x5, x6, x7, x8⟩ := cells9 hB3
    obtain ⟨y0, y1, y2, y3, y4, y5, y6, y7, y8⟩ := cells9 hZ3
    have xz := fun o => frozen_of_block (o := o) hB3
    have yz := fun o => frozen_of_block (o := o) hZ3
    have hM : w.heap.size + 1 < w3.heap.size := lt_of_block hZ3
    clear hB3 hZ3
    go_wp2_with fail
    exact bodyPost_ret (v := .tuple #[.agg (Array.mk [.int .i64 (jk : Int), .string nm, .int .i64 num, .int .i64 kq, .slice aq mq cq, .int .i64 j2, .slice p2 m2 d2, .int .i64 lb, .slice a3 ts.length c3]), .bool true]) (by simp [results, Tryd.results162, go_sem, y0, y1, y2, y3, y4, y5, y6, y7, y8]) rfl (HP.out _ _ FIN.out)
  · have hsb : showsB form 116 = false := by rw [hshow]; simpa using hj
    have hht : hasTy (jk : Int) = false := by rw [HTN.out]; simpa using hj
    have HH := hid hht
    rw [hsb]
    have ab3 : Above (w.heap.size + 1 + 1) w2 (put w2 (w.heap.size + 1) 0 [.int .i64 (jk : Int), .string nm, .int .i64 num, .int .i64 j1, .slice p1 m1 d1, .int .i64 j2, .slice p2 m2 d2, .int .i64 lb, .slice a3 ts.length c3]) := (Above.refl _ _).put (by omega)
    have bb3 : Below w.heap.size w2 (put w2 (w.heap.size + 1) 0 [.int .i64 (jk : Int), .string nm, .int .i64 num, .int .i64 j1, .slice p1 m1 d1, .int .i64 j2, .slice p2 m2 d2, .int .i64 lb, .slice a3 ts.length c3]) := below_put (Below.refl _ _) (by omega)
    have FIN := hid (show ChOut U St w (wtNx n (.mk (jk : Int) nm num ty fr lb ts)) (jk : Int) nm num lb (.slice a3 ts.length c3) (.returned (.tuple #[.agg (Array.mk [.int .i64 (jk : Int), .string nm, .int .i64 num, .int .i64 j1, .slice p1 m1 d1, .int .i64 j2, .slice p2 m2 d2, .int .i64 lb, .slice a3 ts.length c3]), .bool true])) (put w2 (w.heap.size + 1) 0 [.int .i64 (jk : Int), .string nm, .int .i64 num, .int .i64 j1, .slice p1 m1 d1, .int .i64 j2, .slice p2 m2 d2, .int .i64 lb, .slice a3 ts.length c3]) (wtCh T n (.mk (jk : Int) nm num ty fr lb ts)) from by
      simp only [wtNx, wtCh, HH.out, Bool.false_eq_true, ↓reduceIte, ChOut]
      exact ⟨_, _, _, _, _, _, _, _, g1, g2, rfl, q1.above ab3 (fun b hb => F2.ge b (by simp [hb])), q2.above ab3 (fun b hb => F2.ge b (by simp [hb])), (F2.above ab3 (Nat.le_refl _)).mono (by omega), Bx.of_below (b2.trans bb3), HSTB.out _ _ _ HST.out ((b2.trans bb3).mono HS0.out)⟩)
    clear hsb hht hshow q1 q2 F2 ab3 bb3 b2 hB2 hZ2
    go_wp2_with fail
    exact bodyPost_ret (v := .tuple #[.agg (Array.mk [.int .i64 (jk : Int), .string nm, .int .i64 num, .int .i64 j1, .slice p1 m1 d1, .int .i64 j2, .slice p2 m2 d2, .int .i64 lb, .slice a3 ts.length c3]), .bool true]) (by simp [results, Tryd.results162, go_sem, y0, y1, y2, y3, y4, y5, y6, y7, y8]) rfl (HP.out _ _ FIN.out)

mutual
/-- A term with the types T n, T (n + 1), .. in place of its own. -/
def wiT (T : Nat → Ty) : Nat → Tm → Tm
  | n, .mk k nm num ty fr lb ts => .mk k nm num (if hasTy k then T n else ty) fr lb (wiL T (if hasTy k then n + 1 else n) ts)
def wiL (T : Nat → Ty) : Nat → List Tm → List Tm
  | _, [] => []
  | n, t :: ts => wiT T n t :: wiL T (n + (tysOf t).length) ts
end

mutual
theorem rwN_wt (T : Nat → Ty) : ∀ (t : Tm) (n : Nat), rwN wtNx (wtCh T) n t = n + (tysOf t).length
  | .mk k nm num ty fr lb ts, n => by
    simp only [rwN, wtCh, wtNx, tysOf, List.length_append]
    rw [rwNL_wt T ts]
    by_cases h : k = 5 ∨ k = 13
    · simp [hasTy, h]; omega
    · simp [hasTy, h]
theorem rwNL_wt (T : Nat → Ty) : ∀ (ts : List Tm) (n : Nat), rwNL wtNx (wtCh T) n ts = n + (tysL ts).length
  | [], n => by simp [rwNL, tysL]
  | t :: ts, n => by
    simp only [rwNL, tysL, List.length_append]
    rw [rwN_wt T t, rwNL_wt T ts]
    omega
end

mutual
theorem rwT_wt (T : Nat → Ty) : ∀ (t : Tm) (n : Nat), rwT wtNx (wtCh T) n t = wiT T n t
  | .mk k nm num ty fr lb ts, n => by
    simp only [rwT, wtCh, wtNx, wiT]
    rw [rwL_wt T ts]
theorem rwL_wt (T : Nat → Ty) : ∀ (ts : List Tm) (n : Nat), rwL wtNx (wtCh T) n ts = wiL T n ts
  | [], n => by simp [rwL, wiL]
  | t :: ts, n => by
    simp only [rwL, wiL]
    rw [rwT_wt T t, rwN_wt T t, rwL_wt T ts]
end

theorem wtPre_kid {T : Nat → Ty} {N n : Nat} {k : Int} {nm : ByteArray} {num : Int} {ty fr : Ty} {lb : Int} {ts : List Tm} (h : WtPre N n (.mk k nm num ty fr lb ts)) (j : Nat) (hj : j < ts.length) :
    WtPre N (rwNL wtNx (wtCh T) (wtNx n (.mk k nm num ty fr lb ts)) (ts.take j)) ts[j] := by
  obtain ⟨⟨d, hd⟩, hN⟩ := h
  refine ⟨(node_of hd).2.2.2.2.2 _ (List.getElem_mem hj), ?_⟩
  rw [rwNL_wt]
  have e1 := congrArg List.length (tysL_take hj)
  have e2 := tysL_take_len ts (j + 1)
  simp only [List.length_append] at e1
  simp only [tysOf, List.length_append] at hN
  simp only [wtNx, hasTy]
  by_cases h : k = 5 ∨ k = 13
  · rw [if_pos h, List.length_cons, List.length_nil] at hN
    simp only [h, decide_true, ↓reduceIte]
    omega
  · rw [if_neg h, List.length_nil] at hN
    simp only [h, decide_false, Bool.false_eq_true, ↓reduceIte]
    omega

theorem rewrite_wt (g : FuncId) (caps : Array Value) (U S0 C N : Nat) (St : Nat → World → Prop) (T : Nat → Ty) (hg : CallOkT g) (hcl : CallOkT 162) (hU : U < S0) (hCS : C < S0) (hSt : ∀ n w w', St n w → Below S0 w w' → St n w')
    (hC : ∀ n w, St n w → w.cell? ⟨C, 0, none⟩ = some (.func (.func g) #[] caps)) (hFm : ∀ n w, St n w → Forms w)
    (hCho : ∀ n k a m c w, St n w → n < N → S0 ≤ w.heap.size → Calls Tryd.prog g (#[.agg #[.int .i64 k, .slice a m c]] ++ caps) w (ChoOut U St w (n + 1) (T n))) :
    ∀ t : Tm, RwC 162 (.pointer (some ⟨C, 0, none⟩)) U S0 St (WtPre N) wtNx (wtCh T) t :=
  Tm.ind fun k nm num ty fr lb ts ih => rewrite_of _ _ U S0 St _ _ _ hcl hU (wet_any g caps U S0 C N St T hg hU hCS hSt hC hFm hCho) hSt k nm num ty fr lb ts (fun _ _ hp _ j hj => wtPre_kid hp j hj) ih

theorem three_all {w : World} {o1 o2 o3 : Obj} : (((w.alloc o1).alloc o2).alloc o3).heap[w.heap.size]? = some o1 ∧ (((w.alloc o1).alloc o2).alloc o3).heap[w.heap.size + 1]? = some o2 ∧ (((w.alloc o1).alloc o2).alloc o3).heap[w.heap.size + 1 + 1]? = some o3 :=
  three_out (Below.refl _ _)

set_option maxRecDepth 100000 in
set_option maxHeartbeats 2000000 in
theorem withEach_any (g : FuncId) (caps : Array Value) (U S0 N : Nat) (St : Nat → World → Prop) (T : Nat → Ty) (hg : CallOkT g) (hcl : CallOkT 162) (hU : U < S0) (hSt : ∀ n w w', St n w → Below S0 w w' → St n w') (hFm : ∀ n w, St n w → Forms w)
    (hCho : ∀ n k a m c w, St n w → n < N → S0 ≤ w.heap.size → Calls Tryd.prog g (#[.agg #[.int .i64 k, .slice a m c]] ++ caps) w (ChoOut U St w (n + 1) (T n)))
    (t : Tm) (d : Nat) (hsh : shpM d t = true) (hN : (tysOf t).length ≤ N) (v : Value) (fp : List Nat) (w : World) (hat : t.At w v fp) (hst : St 0 w) (hS0 : S0 ≤ w.heap.size) (hfp : ∀ b ∈ fp, b ≠ U) (hsz : t.sz ≤ 1048576) :
    Calls Tryd.prog 105 #[v, .func (.func g) #[] caps] w (RwOut U St w (tysOf t).length (wiT T 0 t)) := by
  have hat0 := hat
  obtain ⟨k, nm, num, k1, n1, a1, c1, k2, n2, a2, c2, lb, n3, a3, c3, rfl⟩ := hat.agg
  have hb0 : Below w.heap.size w (((w.alloc (Obj.cells #[.int .i64 k, .string nm, .int .i64 num, .int .i64 k1, .slice a1 n1 c1, .int .i64 k2, .slice a2 n2 c2, .int .i64 lb, .slice a3 n3 c3] 35)).alloc (Obj.cells #[.func (.func g) #[] caps] 105)).alloc (Obj.cells #[.int .i64 0, .string ByteArray.empty, .int .i64 0, .int .i64 0, .slice none 0 0, .int .i64 0, .slice none 0 0, .int .i64 0, .slice none 0 0] 35)) := (((Below.refl _ _).alloc (Nat.le_refl _) _).alloc (by simp) _).alloc (by simp; omega) _
  obtain ⟨-, hfb, -⟩ := three_all (w := w) (o1 := (Obj.cells #[.int .i64 k, .string nm, .int .i64 num, .int .i64 k1, .slice a1 n1 c1, .int .i64 k2, .slice a2 n2 c2, .int .i64 lb, .slice a3 n3 c3] 35)) (o2 := (Obj.cells #[.func (.func g) #[] caps] 105)) (o3 := (Obj.cells #[.int .i64 0, .string ByteArray.empty, .int .i64 0, .int .i64 0, .slice none 0 0, .int .i64 0, .slice none 0 0, .int .i64 0, .slice none 0 0] 35))
  have hfc : ((((w.alloc (Obj.cells #[.int .i64 k, .string nm, .int .i64 num, .int .i64 k1, .slice a1 n1 c1, .int .i64 k2, .slice a2 n2 c2, .int .i64 lb, .slice a3 n3 c3] 35)).alloc (Obj.cells #[.func (.func g) #[] caps] 105)).alloc (Obj.cells #[.int .i64 0, .string ByteArray.empty, .int .i64 0, .int .i64 0, .slice none 0 0, .int .i64 0, .slice none 0 0, .int .i64 0, .slice none 0 0] 35))).cell? ⟨w.heap.size + 1, 0, none⟩ = some (.func (.func g) #[] caps) := by rw [cell_of_block hfb]; rfl
  have hsz0 : ((((w.alloc (Obj.cells #[.int .i64 k, .string nm, .int .i64 num, .int .i64 k1, .slice a1 n1 c1, .int .i64 k2, .slice a2 n2 c2, .int .i64 lb, .slice a3 n3 c3] 35)).alloc (Obj.cells #[.func (.func g) #[] caps] 105)).alloc (Obj.cells #[.int .i64 0, .string ByteArray.empty, .int .i64 0, .int .i64 0, .slice none 0 0, .int .i64 0, .slice none 0 0, .int .i64 0, .slice none 0 0] 35))).heap.size = w.heap.size + 1 + 1 + 1 := by simp
  have HRW := hid (rewrite_wt g caps U (w.heap.size + 1 + 1) (w.heap.size + 1) N (fun n w' => St n w' ∧ w'.cell? ⟨w.heap.size + 1, 0, none⟩ = some (.func (.func g) #[] caps)) T hg hcl (by omega) (by omega)
    (fun n w1 w2 h hb => ⟨hSt n w1 w2 h.1 (hb.mono (by omega)), (hb.cell (p := ⟨w.heap.size + 1, 0, none⟩) (by simp)).trans h.2⟩) (fun n w1 h => h.2) (fun n w1 h => hFm n w1 h.1)
    (fun n k a m c w1 h hn hs => (hCho n k a m c w1 h.1 hn (by omega)).mono fun e w2 ⟨k', m', a', c', f, he, hat, hf, hbx, hs2⟩ => ⟨k', m', a', c', f, he, hat, hf, hbx, hs2, hbx.cell h.2 (by omega)⟩)
    t 0 _ fp _ (hat0.below hb0) ⟨⟨d, hsh⟩, by omega⟩ ⟨hSt _ _ _ hst (hb0.mono hS0), hfc⟩ (by rw [hsz0]; omega) hfp hsz)
  rw [rwN_wt, rwT_wt, Nat.zero_add] at HRW
  have HST := hid hSt
  have HB0 := hid hb0
  have HS0 := hid hS0
  have HU := hid (show U < w.heap.size by omega)
  have HZ0 := hid hsz0
  clear hat hat0 hb0 hS0 hCho hFm hSt hst hfp hfb hfc hsz0 hsh hN hcl hg
  generalize wiT T 0 t = u at *
  generalize (tysOf t).length = nn at *
  go_enter Tryd.func105, Tryd.ntmps105
  go_wp2_with fail
  refine HRW.out.mono ?_
  rintro e w1 ⟨v', f', rfl, hu, hf, hbx, hst1⟩
  obtain ⟨r0, r1, r2, r3, r4, r5, r6, r7, r8, r9, r10, r11, r12, r13, r14, rfl⟩ := hu.agg
  obtain ⟨hB, hF, hZ⟩ := three_all (w := w) (o1 := (Obj.cells #[.int .i64 k, .string nm, .int .i64 num, .int .i64 k1, .slice a1 n1 c1, .int .i64 k2, .slice a2 n2 c2, .int .i64 lb, .slice a3 n3 c3] 35)) (o2 := (Obj.cells #[.func (.func g) #[] caps] 105)) (o3 := (Obj.cells #[.int .i64 0, .string ByteArray.empty, .int .i64 0, .int .i64 0, .slice none 0 0, .int .i64 0, .slice none 0 0, .int .i64 0, .slice none 0 0] 35))
  have hUl := HU.out
  replace hZ := hbx.block' hZ (by omega)
  obtain ⟨y0, y1, y2, y3, y4, y5, y6, y7, y8⟩ := cells9 hZ
  have yz := fun o => frozen_of_block (o := o) hZ
  have hM : w.heap.size + 1 + 1 < w1.heap.size := lt_of_block hZ
  rw [HZ0.out] at hf
  have ab : Above (w.heap.size + 1 + 1 + 1) w1 (put w1 (w.heap.size + 1 + 1) 0 [.int .i64 r0, .string r1, .int .i64 r2, .int .i64 r3, .slice r5 r4 r6, .int .i64 r7, .slice r9 r8 r10, .int .i64 r11, .slice r13 r12 r14]) := (Above.refl _ _).put (by omega)
  have hbb : Below w.heap.size w1 (put w1 (w.heap.size + 1 + 1) 0 [.int .i64 r0, .string r1, .int .i64 r2, .int .i64 r3, .slice r5 r4 r6, .int .i64 r7, .slice r9 r8 r10, .int .i64 r11, .slice r13 r12 r14]) := below_put (Below.refl _ _) (by omega)
  have FIN := hid (show RwOut U St w nn u (.returned (.agg (Array.mk [.int .i64 r0, .string r1, .int .i64 r2, .int .i64 r3, .slice r5 r4 r6, .int .i64 r7, .slice r9 r8 r10, .int .i64 r11, .slice r13 r12 r14]))) (put w1 (w.heap.size + 1 + 1) 0 [.int .i64 r0, .string r1, .int .i64 r2, .int .i64 r3, .slice r5 r4 r6, .int .i64 r7, .slice r9 r8 r10, .int .i64 r11, .slice r13 r12 r14]) from ⟨_, f', rfl, hu.above ab hf.ge, (hf.above ab (Nat.le_refl _)).mono (by omega), ((Bx.of_below HB0.out).trans hbx).trans_below hbb (Nat.le_refl _), HST.out _ _ _ hst1.1 (hbb.mono HS0.out)⟩)
  clear hB hF hZ hu hf hbx hst1 ab hbb HRW
  go_wp2_with fail
  exact bodyPost_ret (v := .agg (Array.mk [.int .i64 r0, .string r1, .int .i64 r2, .int .i64 r3, .slice r5 r4 r6, .int .i64 r7, .slice r9 r8 r10, .int .i64 r11, .slice r13 r12 r14])) (by simp [results, Tryd.results105, go_sem, y0, y1, y2, y3, y4, y5, y6, y7, y8]) rfl FIN.out

end Go.Proofs.YtgekfnodmgkdaaaDoor

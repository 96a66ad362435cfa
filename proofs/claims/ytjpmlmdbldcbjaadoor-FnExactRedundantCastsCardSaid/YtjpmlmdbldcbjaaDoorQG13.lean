/- The program's copyType, at valid types and at the zero type. The program's copyType at the zero type too; copyNode. Calls that write one block of the caller's: what stays. What a visit leaves: worlds in which only new blocks, one variable and a slice's own block are written. -/
import Derived.Test.YtjpmlmdbldcbjaaDoorQWalkT
import Derived.Test.YtjpmlmdbldcbjaaDoorQG11
import Derived.Test.YtjpmlmdbldcbjaaDoorQPkB
import Derived.Test.YtjpmlmdbldcbjaaDoorQPkA
namespace Go.Proofs.YtjpmlmdbldcbjaaDoor
open Go.RowKit

def unkT : Ty → Ty → Ty := fun _ _ => .mk 1 []

theorem wf_any {ts : List Ty} (h : wf (.mk 1 ts)) : ts = [] := by
  have := (wf_mk h).1
  have : ts.length = 0 := by
    have e : kidsOf 1 = 0 := rfl
    omega
  exact List.length_eq_zero_iff.1 this

mutual
theorem wkT_copy : ∀ t : Ty, wf t → wkT unkT t t = t
  | .mk k ts, h => by
    simp only [wkT]
    by_cases hk : k = 1
    · subst hk
      obtain rfl := wf_any h
      simp [unkT]
    · rw [if_neg (by simp [hk]), wkTL_copy ts (wf_mk h).2]
theorem wkTL_copy : ∀ ts : List Ty, (∀ t ∈ ts, wf t) → wkTL unkT ts ts = ts
  | [], _ => by simp only [wkTL]
  | t :: ts, h => by simp only [wkTL]; rw [wkT_copy t (h t (by simp)), wkTL_copy ts (fun u hu => h u (by simp [hu]))]
end

set_option maxRecDepth 100000 in
theorem callOk_unknown : CallOkT 85 := fun _ _ => by kernel_rfl

set_option maxHeartbeats 400000 in
theorem unknown_any : ApT 85 unkT := by
  intro t u v1 v2 f1 f2 w h1 h2 _ _
  obtain ⟨k, m, a, cap, rfl⟩ := h1.agg
  obtain ⟨k', m', a', cap', rfl⟩ := h2.agg
  have hM : w.heap.size + 1 + 1 < (((w.alloc (Obj.cells #[.int .i64 k, .slice a m cap] 31)).alloc (Obj.cells #[.int .i64 k', .slice a' m' cap'] 31)).alloc (Obj.cells #[.int .i64 0, .slice none 0 0] 31)).heap.size := by simp
  have hbb := (((((Below.refl w.heap.size w).alloc (Nat.le_refl _) (Obj.cells #[.int .i64 k, .slice a m cap] 31)).alloc (by simp) (Obj.cells #[.int .i64 k', .slice a' m' cap'] 31)).alloc (by simp; omega) (Obj.cells #[.int .i64 0, .slice none 0 0] 31)).setCell (p := ⟨w.heap.size + 1 + 1, 0, none⟩) (by simp; omega) (.int .i64 1)).setCell (p := ⟨w.heap.size + 1 + 1, 1, none⟩) (by simp; omega) (.slice none 0 0)
  go_enter Tryd.func85, Tryd.ntmps85
  go_wp2_with fail
  exact bodyPost_ret (v := .agg #[.int .i64 1, .slice none 0 0]) (by simp [results, Tryd.results85, go_sem]) rfl ⟨_, [], rfl, Ty.at_mk.2 ⟨_, rfl, .inl ⟨rfl, rfl, none, 0, rfl⟩⟩, Fresh.nil _ _, by first | exact hbb | exact (((Below.refl _ _).alloc (Nat.le_refl _) _).alloc (by simp) _).alloc (by simp; omega) _⟩

theorem boxes2 {w wr : World} {x y x2 y2 : Value} {T T2 : TypeId} (h : Below ((w.alloc (Obj.cells #[x, y] T)).alloc (Obj.cells #[x2, y2] T2)).heap.size ((w.alloc (Obj.cells #[x, y] T)).alloc (Obj.cells #[x2, y2] T2)) wr) :
    wr.cell? ⟨w.heap.size, 0, none⟩ = some x ∧ wr.cell? ⟨w.heap.size, 1, none⟩ = some y ∧ wr.cell? ⟨w.heap.size + 1, 0, none⟩ = some x2 ∧ wr.cell? ⟨w.heap.size + 1, 1, none⟩ = some y2 ∧ ∀ o, wr.frozen? ⟨w.heap.size + 1, o, none⟩ = false := by
  obtain ⟨a, b, c, d⟩ := box_cells2 h
  have hs : (w.alloc (Obj.cells #[x, y] T)).heap.size = w.heap.size + 1 := by simp
  have h1 : wr.heap[w.heap.size + 1]? = some (Obj.cells #[x2, y2] T2) := by
    rw [h.block (w.heap.size + 1) (by simp), ← hs]
    exact alloc_new _ _
  exact ⟨a, b, c, d, fun o => frozen_of_block h1⟩

set_option maxRecDepth 100000 in
set_option maxHeartbeats 800000 in
theorem copyType_any (t : Ty) (v : Value) (fp : List Nat) (w : World) (h : t.At w v fp) (hw : wf t) : Calls Tryd.prog 73 #[v] w (MadeT w t) := by
  obtain ⟨k, m, a, cap, rfl⟩ := h.agg
  have hB := (((Below.refl w.heap.size w).alloc (Nat.le_refl _) (Obj.cells #[.int .i64 k, .slice a m cap] 31)).alloc (by simp) (Obj.cells #[.int .i64 0, .slice none 0 0] 31))
  have HT := hid (wkT_copy t hw)
  go_enter Tryd.func73, Tryd.ntmps73
  go_wp2_with fail
  refine (walkT_any _ _ unknown_any callOk_unknown t t _ _ _ _ _ (h.below hB) (h.below hB) hw hw).mono ?_
  rw [HT.out]
  rintro e w1 ⟨v, f, rfl, hat, hf, hb⟩
  obtain ⟨kr, nr, ar, capr, rfl⟩ := hat.agg
  obtain ⟨x0, x1, r0, r1, rz⟩ := boxes2 hb
  have hM : w.heap.size + 1 < w1.heap.size := by have := hb.size; simp at this; omega
  have hbb := ((alloc2 hb).setCell (p := ⟨w.heap.size + 1, 0, none⟩) (by simp) (.int .i64 kr)).setCell (p := ⟨w.heap.size + 1, 1, none⟩) (by simp) (.slice ar nr capr)
  have hkr := keepR (R := w.heap.size + 1) (x := .int .i64 kr) (y := .slice ar nr capr) hat hf (by simp)
  go_wp2_with fail
  exact bodyPost_ret (v := .agg #[.int .i64 kr, .slice ar nr capr]) (by simp [results, Tryd.results73, go_sem, r0, r1]) rfl ⟨_, f, rfl, hkr.1, hkr.2.mono (by simp; omega), hbb⟩

end Go.Proofs.YtjpmlmdbldcbjaaDoor

namespace Go.Proofs.YtjpmlmdbldcbjaaDoor
open Go.RowKit

set_option maxRecDepth 100000 in
set_option maxHeartbeats 800000 in
theorem copyType_zero (v : Value) (fp : List Nat) (w : World) (h : (Ty.mk 0 []).At w v fp) : Calls Tryd.prog 73 #[v] w (MadeT w (.mk 0 [])) := by
  obtain ⟨k, m, a, cap, rfl⟩ := h.agg
  have hB := (((Below.refl w.heap.size w).alloc (Nat.le_refl _) (Obj.cells #[.int .i64 k, .slice a m cap] 31)).alloc (by simp) (Obj.cells #[.int .i64 0, .slice none 0 0] 31))
  have HT := hid (show wkT unkT (.mk 0 []) (.mk 0 []) = .mk 0 [] by simp [wkT, wkTL])
  go_enter Tryd.func73, Tryd.ntmps73
  go_wp2_with fail
  refine (walkT_same 85 unkT 0 [] [] (by decide) rfl (Nat.zero_le _) (by simp) (by simp) (by simp) _ _ _ _ _ (h.below hB) (h.below hB)).mono ?_
  rw [HT.out]
  rintro e w1 ⟨v, f, rfl, hat, hf, hb⟩
  obtain ⟨kr, nr, ar, capr, rfl⟩ := hat.agg
  obtain ⟨x0, x1, r0, r1, rz⟩ := boxes2 hb
  have hM : w.heap.size + 1 < w1.heap.size := by have := hb.size; simp at this; omega
  have hbb := ((alloc2 hb).setCell (p := ⟨w.heap.size + 1, 0, none⟩) (by simp) (.int .i64 kr)).setCell (p := ⟨w.heap.size + 1, 1, none⟩) (by simp) (.slice ar nr capr)
  have hkr := keepR (R := w.heap.size + 1) (x := .int .i64 kr) (y := .slice ar nr capr) hat hf (by simp)
  go_wp2_with fail
  exact bodyPost_ret (v := .agg #[.int .i64 kr, .slice ar nr capr]) (by simp [results, Tryd.results73, go_sem, r0, r1]) rfl ⟨_, f, rfl, hkr.1, hkr.2.mono (by simp; omega), hbb⟩

theorem noTy_eq {t : Ty} (h : noTy t = true) : t = .mk 0 [] := by
  cases t with
  | mk k ts =>
    simp only [noTy, Bool.and_eq_true, beq_iff_eq] at h
    rw [h.1, List.length_eq_zero_iff.1 h.2]

/-- A type that a valid node may hold. -/
def okTy (t : Ty) : Prop := wf t ∨ noTy t = true

theorem copyType_ok (t : Ty) (v : Value) (fp : List Nat) (w : World) (h : t.At w v fp) (hw : okTy t) : Calls Tryd.prog 73 #[v] w (MadeT w t) := by
  rcases hw with hw | hw
  · exact copyType_any t v fp w h hw
  · rw [noTy_eq hw] at h ⊢
    exact copyType_zero v fp w h

/-- What a call says that hands back a node in memory of its own but for the operands, which are the argument's. -/
def MadeN (w : World) (k : Int) (nm : ByteArray) (num : Int) (ty fr : Ty) (lb : Int) (s : Value) (e : Ending) (w' : World) : Prop :=
  ∃ k1 n1 a1 c1 k2 n2 a2 c2 g1 g2, e = .returned (.tuple #[.agg #[.int .i64 k, .string nm, .int .i64 num, .int .i64 k1, .slice a1 n1 c1, .int .i64 k2, .slice a2 n2 c2, .int .i64 lb, s], .bool true]) ∧
    Ty.At w' ty (.agg #[.int .i64 k1, .slice a1 n1 c1]) g1 ∧ Ty.At w' fr (.agg #[.int .i64 k2, .slice a2 n2 c2]) g2 ∧ Fresh w.heap.size w' (g1 ++ g2) ∧ Below w.heap.size w w'

set_option maxRecDepth 100000 in
set_option maxHeartbeats 2000000 in
theorem copyNode_any (k : Int) (nm : ByteArray) (num : Int) (ty fr : Ty) (lb : Int) (a3 : Option Addr) (n3 c3 : Nat) (k1 k2 : Int) (n1 n2 c1 c2 : Nat) (a1 a2 : Option Addr) (f1 f2 : List Nat) (w : World)
    (ht1 : Ty.At w ty (.agg #[.int .i64 k1, .slice a1 n1 c1]) f1) (ht2 : Ty.At w fr (.agg #[.int .i64 k2, .slice a2 n2 c2]) f2) (h1 : okTy ty) (h2 : okTy fr) :
    Calls Tryd.prog 60 #[.agg #[.int .i64 k, .string nm, .int .i64 num, .int .i64 k1, .slice a1 n1 c1, .int .i64 k2, .slice a2 n2 c2, .int .i64 lb, .slice a3 n3 c3]] w (MadeN w k nm num ty fr lb (.slice a3 n3 c3)) := by
  have hb0 : Below w.heap.size w ((w.alloc (Obj.cells #[.int .i64 k, .string nm, .int .i64 num, .int .i64 k1, .slice a1 n1 c1, .int .i64 k2, .slice a2 n2 c2, .int .i64 lb, .slice a3 n3 c3] 34)).alloc
      (Obj.cells #[.int .i64 0, .string ByteArray.empty, .int .i64 0, .int .i64 0, .slice none 0 0, .int .i64 0, .slice none 0 0, .int .i64 0, .slice none 0 0] 34)) :=
    (((Below.refl _ _).alloc (Nat.le_refl _) _).alloc (by simp) _)
  go_enter Tryd.func60, Tryd.ntmps60
  go_wp2_with fail
  refine (copyType_ok ty _ _ _ (ht1.below hb0) h1).mono ?_
  rintro e w1 ⟨v1, g1, rfl, hv1, hg1, hb1⟩
  obtain ⟨j1, m1, p1, d1, rfl⟩ := hv1.agg
  obtain ⟨hB, hZ⟩ := two_out hb1
  obtain ⟨x0, x1, x2, x3, x4, x5, x6, x7, x8⟩ := cells9 hB
  have xz := fun o => frozen_of_block (o := o) hB
  have hs0 : ((w.alloc (Obj.cells #[.int .i64 k, .string nm, .int .i64 num, .int .i64 k1, .slice a1 n1 c1, .int .i64 k2, .slice a2 n2 c2, .int .i64 lb, .slice a3 n3 c3] 34)).alloc
      (Obj.cells #[.int .i64 0, .string ByteArray.empty, .int .i64 0, .int .i64 0, .slice none 0 0, .int .i64 0, .slice none 0 0, .int .i64 0, .slice none 0 0] 34)).heap.size = w.heap.size + 1 + 1 := by simp
  have b1 := below_trans hb0 hb1
  rw [hs0] at hg1
  have hM : w.heap.size + 1 < w1.heap.size := lt_of_block hZ
  clear hs0 hb1 hb0
  go_wp2_with fail
  have b2 := (b1.setCell (p := ⟨w.heap.size, 3, none⟩) (Nat.le_refl _) (.int .i64 j1)).setCell (p := ⟨w.heap.size, 4, none⟩) (Nat.le_refl _) (.slice p1 m1 d1)
  refine (copyType_ok fr _ _ _ (ht2.below b2) h2).mono ?_
  rintro e w2 ⟨v2, g2, rfl, hv2, hg2, hb2⟩
  obtain ⟨j2, m2, p2, d2, rfl⟩ := hv2.agg
  have ab1 := ((Above.refl (w.heap.size + 1 + 1) w1).setCell (p := ⟨w.heap.size, 3, none⟩) (by simp; omega) (.int .i64 j1)).setCell (p := ⟨w.heap.size, 4, none⟩) (by simp; omega) (.slice p1 m1 d1)
  have hv1' := (hv1.above ab1 hg1.ge).below hb2
  have F2 := Fresh.append (hg1.above ab1 (Nat.le_refl _)) hg2 (Nat.le_refl _) (by rw [size_setCell, size_setCell]; omega) hb2
  have hB2 : w2.heap[w.heap.size]? = some (.cells #[.int .i64 k, .string nm, .int .i64 num, .int .i64 j1, .slice p1 m1 d1, .int .i64 k2, .slice a2 n2 c2, .int .i64 lb, .slice a3 n3 c3] 34 (0, 0)) :=
    blk (heap_setCell_at (heap_setCell_at hB _) _) hb2
  have hZ2 := blk (blk_ne (a := ⟨w.heap.size, 4, none⟩) (u := .slice p1 m1 d1) (blk_ne (a := ⟨w.heap.size, 3, none⟩) (u := .int .i64 j1) hZ (by simp)) (by simp)) hb2
  have b3 := below_trans b2 hb2
  clear x0 x1 x2 x3 x4 x5 x6 x7 x8 xz hB hZ hv1 hg1 hg2 b1 b2 hb2 ab1
  obtain ⟨x0, x1, x2, x3, x4, x5, x6, x7, x8⟩ := cells9 hB2
  obtain ⟨y0, y1, y2, y3, y4, y5, y6, y7, y8⟩ := cells9 hZ2
  have xz := fun o => frozen_of_block (o := o) hB2
  have yz := fun o => frozen_of_block (o := o) hZ2
  have ab3 := Above.put (vs := [.int .i64 k, .string nm, .int .i64 num, .int .i64 j1, .slice p1 m1 d1, .int .i64 j2, .slice p2 m2 d2, .int .i64 lb, .slice a3 n3 c3]) (o := 0) (((Above.refl (w.heap.size + 1 + 1) w2).setCell (p := ⟨w.heap.size, 5, none⟩) (by simp; omega) (.int .i64 j2)).setCell (p := ⟨w.heap.size, 6, none⟩) (by simp; omega) (.slice p2 m2 d2)) (b := w.heap.size + 1) (by omega)
  have b6 := below_put (vs := [.int .i64 k, .string nm, .int .i64 num, .int .i64 j1, .slice p1 m1 d1, .int .i64 j2, .slice p2 m2 d2, .int .i64 lb, .slice a3 n3 c3]) (o := 0) ((b3.setCell (p := ⟨w.heap.size, 5, none⟩) (Nat.le_refl _) (.int .i64 j2)).setCell (p := ⟨w.heap.size, 6, none⟩) (Nat.le_refl _) (.slice p2 m2 d2)) (b := w.heap.size + 1) (by omega)
  have q1 := hv1'.above ab3 (fun b hb => F2.ge b (by simp [hb]))
  have q2 := hv2.above ab3 (fun b hb => F2.ge b (by simp [hb]))
  have F4 := (F2.above ab3 (Nat.le_refl _)).mono (B' := w.heap.size) (by omega)
  clear hv1' hv2 F2 ab3
  go_wp2_with fail
  exact bodyPost_ret (v := .tuple #[.agg #[.int .i64 k, .string nm, .int .i64 num, .int .i64 j1, .slice p1 m1 d1, .int .i64 j2, .slice p2 m2 d2, .int .i64 lb, .slice a3 n3 c3], .bool true]) (by simp [results, Tryd.results60, go_sem, y0, y1, y2, y3, y4, y5, y6, y7, y8]) rfl ⟨_, _, _, _, _, _, _, _, g1, g2, rfl, q1, q2, F4, b6⟩
end Go.Proofs.YtjpmlmdbldcbjaaDoor

namespace Go.Proofs.YtjpmlmdbldcbjaaDoor
open Go.RowKit

/-- From w to w' only new blocks and the block U have been written. -/
def Bx (U : Nat) (w w' : World) : Prop := w.grownBy w' (some U)

theorem Bx.refl (U : Nat) (w : World) : Bx U w w := World.grownBy.refl _ _
theorem Bx.of_below {U : Nat} {w w' : World} (h : Below w.heap.size w w') : Bx U w w' := grown_of_below h _
theorem Bx.size {U : Nat} {w w' : World} (h : Bx U w w') : w.heap.size ≤ w'.heap.size := World.grownBy.size h

theorem Bx.trans {U : Nat} {a b c : World} (h : Bx U a b) (k : Bx U b c) : Bx U a c :=
  ⟨k.os.trans h.os, k.tape.trans h.tape, k.output.trans h.output, Nat.le_trans h.size k.size, fun i hi hn => (k.block i (Nat.lt_of_lt_of_le hi h.size) hn).trans (h.block i hi hn)⟩

theorem Bx.trans_below {U B : Nat} {a b c : World} (h : Bx U a b) (k : Below B b c) (hB : a.heap.size ≤ B) : Bx U a c :=
  ⟨k.os.trans h.os, k.tape.trans h.tape, k.output.trans h.output, Nat.le_trans h.size k.size, fun i hi hn => (k.block i (by omega)).trans (h.block i hi hn)⟩

theorem Bx.setCell {U : Nat} {a b : World} (h : Bx U a b) {p : Addr} (hp : a.heap.size ≤ p.block) (u : Value) : Bx U a (b.setCell p u) :=
  h.trans_below ((Below.refl a.heap.size b).setCell hp u) (Nat.le_refl _)

theorem Bx.put {U : Nat} {a b : World} (h : Bx U a b) {M o : Nat} {vs : List Value} (hp : a.heap.size ≤ M) : Bx U a (Go.Proofs.YtjpmlmdbldcbjaaDoor.put b M o vs) :=
  h.trans_below (below_put (Below.refl a.heap.size b) hp) (Nat.le_refl _)

theorem Bx.alloc {U : Nat} {a b : World} (h : Bx U a b) (o : Obj) : Bx U a (b.alloc o) := h.trans (Bx.of_below ((Below.refl _ _).alloc (Nat.le_refl _) _))

theorem Bx.block' {U : Nat} {w w' : World} (h : Bx U w w') {M : Nat} {o : Obj} (hM : w.heap[M]? = some o) (hn : M ≠ U) : w'.heap[M]? = some o :=
  (h.block M (lt_of_block hM) (fun e => hn (Option.some.inj e))).trans hM

theorem Bx.cell {U : Nat} {w w' : World} (h : Bx U w w') {b o : Nat} {u : Value} (hc : w.cell? ⟨b, o, none⟩ = some u) (hn : b ≠ U) : w'.cell? ⟨b, o, none⟩ = some u :=
  (World.grownBy.cell_far h ⟨b, o, none⟩ (World.block_lt_of_cell? _ _ hc) (fun e => hn (Option.some.inj e))).trans hc

theorem Bx.frozen {U : Nat} {w w' : World} (h : Bx U w w') {b o : Nat} {c : Bool} (hc : w.frozen? ⟨b, o, none⟩ = c) (hlt : b < w.heap.size) (hn : b ≠ U) : w'.frozen? ⟨b, o, none⟩ = c :=
  (World.grownBy.frozen_far h ⟨b, o, none⟩ hlt (fun e => hn (Option.some.inj e))).trans hc

theorem Bx.tm {U : Nat} {w w' : World} (h : Bx U w w') {t : Tm} {x : Value} {fp : List Nat} (ht : t.At w x fp) (hn : ∀ b ∈ fp, b ≠ U) : t.At w' x fp :=
  ht.congr fun b hb o => World.grownBy.cell_far h ⟨b, o, none⟩ (ht.lt b hb) (fun e => hn b hb (Option.some.inj e))

theorem Bx.sm {U : Nat} {w w' : World} (h : Bx U w w') {ts : List Tm} {x : Value} {fp : List Nat} (ht : SmAt w ts x fp) (hn : ∀ b ∈ fp, b ≠ U) : SmAt w' ts x fp :=
  ht.congr fun b hb o => World.grownBy.cell_far h ⟨b, o, none⟩ (ht.lt b hb) (fun e => hn b hb (Option.some.inj e))

theorem Bx.ty {U : Nat} {w w' : World} (h : Bx U w w') {t : Ty} {x : Value} {fp : List Nat} (ht : t.At w x fp) (hn : ∀ b ∈ fp, b ≠ U) : t.At w' x fp :=
  ht.congr fun b hb o => World.grownBy.cell_far h ⟨b, o, none⟩ (ht.lt b hb) (fun e => hn b hb (Option.some.inj e))

theorem Bx.fresh {U B : Nat} {w w' : World} (h : Bx U w w') {f : List Nat} (hf : Fresh B w f) (hU : U < B) : Fresh B w' f :=
  ⟨hf.1, fun b hb => ⟨(hf.2 b hb).1, Nat.lt_of_lt_of_le (hf.2 b hb).2.1 h.size, fun o => h.frozen ((hf.2 b hb).2.2 o) (hf.2 b hb).2.1 (by have := (hf.2 b hb).1; omega)⟩⟩

/-- Old blocks below B are as they were, if U lies from B on. -/
theorem Bx.below {U B : Nat} {w w' : World} (h : Bx U w w') (hB : B ≤ w.heap.size) (hU : B ≤ U) : Below B w w' :=
  ⟨h.os, h.tape, h.output, h.size, fun k hk => World.grownBy.block h k (by omega) (fun e => by have := Option.some.inj e; omega)⟩

theorem BuiltM.above {M : Nat} {T : TypeId} {n : Nat} {ds : List Tm} {fp : List Nat} {w w1 : World} (h : BuiltM M T n ds fp w) (hb : Above M w w1) (hs : w1.heap[M]? = w.heap[M]?) : BuiltM M T n ds fp w1 := by
  obtain ⟨C, hM, hC, hn, hl, hf⟩ := h
  have hMl := lt_of_block hM
  refine ⟨C, hs.trans hM, hC, hn, hl.congr (fun o => World.cell?_of_block (w := w) (a := ⟨M, o, none⟩) hs) (fun b hm o => World.cell?_of_block (w := w) (a := ⟨b, o, none⟩) (hb.block b (by have := hf.ge b hm; omega) (hl.lt b hm))), hf.above hb (by omega)⟩

theorem size_put {b : Nat} : ∀ {vs : List Value} {w : World} {o : Nat}, (put w b o vs).heap.size = w.heap.size
  | [], _, _ => rfl
  | v :: vs, w, o => by
    rw [put, size_put, size_setCell]

theorem heap_put_ne {M : Nat} : ∀ {vs : List Value} {w : World} {o b : Nat}, b ≠ M → (put w M o vs).heap[b]? = w.heap[b]?
  | [], _, _, _, _ => rfl
  | v :: vs, w, o, b, h => by
    rw [put, heap_put_ne h]
    exact Below.heap_setCell w _ v b h

theorem Ty.At.putne {w : World} {t : Ty} {v : Value} {fp : List Nat} {M o : Nat} {vs : List Value} (h : t.At w v fp) (hn : ∀ b ∈ fp, b ≠ M) : t.At (put w M o vs) v fp :=
  h.congr fun b hb o => World.cell?_of_block (w := w) (a := ⟨b, o, none⟩) (heap_put_ne (hn b hb))

theorem Fresh.putne {B : Nat} {M : Nat} : ∀ {vs : List Value} {w : World} {o : Nat} {fp : List Nat}, Fresh B w fp → (∀ b ∈ fp, b ≠ M) → Fresh B (put w M o vs) fp
  | [], _, _, _, h, _ => h
  | v :: vs, w, o, fp, h, hn => by
    rw [put]
    exact Fresh.putne (h.setCell (a := ⟨M, o, none⟩) hn v) hn

end Go.Proofs.YtjpmlmdbldcbjaaDoor

namespace Go.Proofs.YtjpmlmdbldcbjaaDoor
open Go.RowKit

/-- The variable of block M holds a slice of the call's own that reads as the types ds. -/
def ListAt (M B : Nat) (ds : List Ty) (v : Value) (w : World) : Prop := ∃ g, w.heap[M]? = some (.cells #[v] 29 (0, 0)) ∧ GrowT B ds v g w ∧ M < B

theorem ListAt.below {M B : Nat} {ds : List Ty} {v : Value} {w w' : World} (h : ListAt M B ds v w) (hb : Below w.heap.size w w') : ListAt M B ds v w' := by
  obtain ⟨g, h1, h2, h3⟩ := h
  exact ⟨g, blk h1 hb, h2.below hb, h3⟩

/-- From w to w' only new blocks, block M and v's own block have been written. -/
def Lr (M : Nat) (w w' : World) (v v' : Value) : Prop := (w'.os = w.os ∧ w'.tape = w.tape ∧ w'.output = w.output ∧ w.heap.size ≤ w'.heap.size) ∧ (∀ k, k < w.heap.size → k ≠ M → some k ≠ v.ownBlock → w'.heap[k]? = w.heap[k]?) ∧ (v'.ownBlock = v.ownBlock ∨ ∃ b, v'.ownBlock = some b ∧ w.heap.size ≤ b)

theorem Lr.of_below {M : Nat} {w w' : World} (h : Below w.heap.size w w') (v : Value) : Lr M w w' v v := ⟨⟨h.os, h.tape, h.output, h.size⟩, fun k hk _ _ => h.block k hk, .inl rfl⟩

theorem Lr.trans {M : Nat} {a b c : World} {x y z : Value} (h : Lr M a b x y) (k : Lr M b c y z) : Lr M a c x z := by
  obtain ⟨⟨h1, h2, h3, h4⟩, h5, h6⟩ := h
  obtain ⟨⟨k1, k2, k3, k4⟩, k5, k6⟩ := k
  refine ⟨⟨k1.trans h1, k2.trans h2, k3.trans h3, Nat.le_trans h4 k4⟩, fun i hi hM hn => ?_, ?_⟩
  · rw [k5 i (Nat.lt_of_lt_of_le hi h4) hM ?_, h5 i hi hM hn]
    rcases h6 with h6 | ⟨b, h6, hb⟩
    · rw [h6]; exact hn
    · rw [h6]
      intro e
      have := Option.some.inj e
      omega
  · rcases k6 with k6 | ⟨b, k6, hb⟩
    · rcases h6 with h6 | ⟨b, h6, hb⟩
      · exact .inl (k6.trans h6)
      · exact .inr ⟨b, k6.trans h6, hb⟩
    · exact .inr ⟨b, k6, Nat.le_trans h4 hb⟩

theorem Lr.heap {M : Nat} {w w' : World} {v v' : Value} (h : Lr M w w' v v') {k : Nat} {o : Obj} (hk : w.heap[k]? = some o) (hM : k ≠ M) (hn : some k ≠ v.ownBlock) : w'.heap[k]? = some o := (h.2.1 k (lt_of_block hk) hM hn).trans hk

theorem Lr.below {M B : Nat} {w w' : World} {v v' : Value} (h : Lr M w w' v v') (hMB : M < B) (hB : B ≤ w.heap.size) (ho : ∀ b, v.ownBlock = some b → B ≤ b) : Below M w w' :=
  ⟨h.1.1, h.1.2.1, h.1.2.2.1, h.1.2.2.2, fun k hk => h.2.1 k (by omega) (by omega) (fun e => by have := ho k e.symm; omega)⟩

end Go.Proofs.YtjpmlmdbldcbjaaDoor

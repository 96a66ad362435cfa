/- The program's copyType, at valid types and at the zero type. The program's copyType at the zero type too; copyNode. Calls that write one block of the caller's: what stays. What a visit leaves: worlds in which only new blocks, one variable and a slice's own block are written. The ground type of a kind: the program's groundOfKind. The program's copies, meets and joins. Well-formed types of at most a depth, beside chapter 6. The relations of chapter 8 as plain functions: what a cast between two types cannot blame (p = 1: its own label; -1: the negation of it; 0: neither). Precision, consistency and the relations of chapter 8: the laws of order, plainly. The program's MeetTypes and JoinTypes. A type of two parts, which share the memory of the types given; scopes as linked lists of bindings. MatchFun and MatchPair, of the specification and of the program. The specification's MeetTypes. -/
import Derived.Test.YtffmpjcjmffdeaaDoorUWalkT
import Derived.Test.YtffmpjcjmffdeaaDoorUNdW
import Derived.Test.YtffmpjcjmffdeaaDoorUPkB
import Derived.Test.YtffmpjcjmffdeaaDoorUPkA
import Derived.Test.YtffmpjcjmffdeaaDoorUG1
import Derived.Test.YtffmpjcjmffdeaaDoorUG6
import Derived.Deep.RegionHeld3
namespace Go.Proofs.YtffmpjcjmffdeaaDoor
open Go.RowKit

def unkT : Ty → Ty → Ty := fun _ _ => .mk 1 []

theorem wf_any {ts : List Ty} (h : wf (.mk 1 ts)) : ts = [] := by
  have := (wf_mk h).1
  have : ts.length = 0 := by
    have e : kidsOf 1 = 0 := rfl
    omega
  exact List.length_eq_zero_iff.1 this

mutual
theorem wkT_copy : ∀ t : Ty, wf t → wkT unkT t t = t
  | .mk k ts, h => by
    simp only [wkT]
    by_cases hk : k = 1
    · subst hk
      obtain rfl := wf_any h
      simp [unkT]
    · rw [if_neg (by simp [hk]), wkTL_copy ts (wf_mk h).2]
theorem wkTL_copy : ∀ ts : List Ty, (∀ t ∈ ts, wf t) → wkTL unkT ts ts = ts
  | [], _ => by simp only [wkTL]
  | t :: ts, h => by simp only [wkTL]; rw [wkT_copy t (h t (by simp)), wkTL_copy ts (fun u hu => h u (by simp [hu]))]
end

set_option maxRecDepth 100000 in
theorem callOk_unknown : CallOkT 119 := fun _ _ => by kernel_rfl

set_option maxHeartbeats 400000 in
theorem unknown_any : ApT 119 unkT := by
  intro t u v1 v2 f1 f2 w h1 h2 _ _
  obtain ⟨k, m, a, cap, rfl⟩ := h1.agg
  obtain ⟨k', m', a', cap', rfl⟩ := h2.agg
  have hM : w.heap.size + 1 + 1 < (((w.alloc (Obj.cells #[.int .i64 k, .slice a m cap] 32)).alloc (Obj.cells #[.int .i64 k', .slice a' m' cap'] 32)).alloc (Obj.cells #[.int .i64 0, .slice none 0 0] 32)).heap.size := by simp
  have hbb := (((((Below.refl w.heap.size w).alloc (Nat.le_refl _) (Obj.cells #[.int .i64 k, .slice a m cap] 32)).alloc (by simp) (Obj.cells #[.int .i64 k', .slice a' m' cap'] 32)).alloc (by simp; omega) (Obj.cells #[.int .i64 0, .slice none 0 0] 32)).setCell (p := ⟨w.heap.size + 1 + 1, 0, none⟩) (by simp; omega) (.int .i64 1)).setCell (p := ⟨w.heap.size + 1 + 1, 1, none⟩) (by simp; omega) (.slice none 0 0)
  go_enter Tryd.func119, Tryd.ntmps119
  go_wp2_with fail
  exact bodyPost_ret (v := .agg #[.int .i64 1, .slice none 0 0]) (by simp [results, Tryd.results119, go_sem]) rfl ⟨_, [], rfl, Ty.at_mk.2 ⟨_, rfl, .inl ⟨rfl, rfl, none, 0, rfl⟩⟩, Fresh.nil _ _, by first | exact hbb | exact (((Below.refl _ _).alloc (Nat.le_refl _) _).alloc (by simp) _).alloc (by simp; omega) _⟩

theorem boxes2 {w wr : World} {x y x2 y2 : Value} {T T2 : TypeId} (h : Below ((w.alloc (Obj.cells #[x, y] T)).alloc (Obj.cells #[x2, y2] T2)).heap.size ((w.alloc (Obj.cells #[x, y] T)).alloc (Obj.cells #[x2, y2] T2)) wr) :
    wr.cell? ⟨w.heap.size, 0, none⟩ = some x ∧ wr.cell? ⟨w.heap.size, 1, none⟩ = some y ∧ wr.cell? ⟨w.heap.size + 1, 0, none⟩ = some x2 ∧ wr.cell? ⟨w.heap.size + 1, 1, none⟩ = some y2 ∧ ∀ o, wr.frozen? ⟨w.heap.size + 1, o, none⟩ = false := by
  obtain ⟨a, b, c, d⟩ := box_cells2 h
  have hs : (w.alloc (Obj.cells #[x, y] T)).heap.size = w.heap.size + 1 := by simp
  have h1 : wr.heap[w.heap.size + 1]? = some (Obj.cells #[x2, y2] T2) := by
    rw [h.block (w.heap.size + 1) (by simp), ← hs]
    exact alloc_new _ _
  exact ⟨a, b, c, d, fun o => frozen_of_block h1⟩

set_option maxRecDepth 100000 in
set_option maxHeartbeats 800000 in
theorem copyType_any (t : Ty) (v : Value) (fp : List Nat) (w : World) (h : t.At w v fp) (hw : wf t) : Calls Tryd.prog 63 #[v] w (MadeT w t) := by
  obtain ⟨k, m, a, cap, rfl⟩ := h.agg
  have hB := (((Below.refl w.heap.size w).alloc (Nat.le_refl _) (Obj.cells #[.int .i64 k, .slice a m cap] 32)).alloc (by simp) (Obj.cells #[.int .i64 0, .slice none 0 0] 32))
  have HT := hid (wkT_copy t hw)
  go_enter Tryd.func63, Tryd.ntmps63
  go_wp2_with fail
  refine (walkT_any _ _ unknown_any callOk_unknown t t _ _ _ _ _ (h.below hB) (h.below hB) hw hw).mono ?_
  rw [HT.out]
  rintro e w1 ⟨v, f, rfl, hat, hf, hb⟩
  obtain ⟨kr, nr, ar, capr, rfl⟩ := hat.agg
  obtain ⟨x0, x1, r0, r1, rz⟩ := boxes2 hb
  have hM : w.heap.size + 1 < w1.heap.size := by have := hb.size; simp at this; omega
  have hbb := ((alloc2 hb).setCell (p := ⟨w.heap.size + 1, 0, none⟩) (by simp) (.int .i64 kr)).setCell (p := ⟨w.heap.size + 1, 1, none⟩) (by simp) (.slice ar nr capr)
  have hkr := keepR (R := w.heap.size + 1) (x := .int .i64 kr) (y := .slice ar nr capr) hat hf (by simp)
  go_wp2_with fail
  exact bodyPost_ret (v := .agg #[.int .i64 kr, .slice ar nr capr]) (by simp [results, Tryd.results63, go_sem, r0, r1]) rfl ⟨_, f, rfl, hkr.1, hkr.2.mono (by simp; omega), hbb⟩

end Go.Proofs.YtffmpjcjmffdeaaDoor

namespace Go.Proofs.YtffmpjcjmffdeaaDoor
open Go.RowKit

set_option maxRecDepth 100000 in
set_option maxHeartbeats 800000 in
theorem copyType_zero (v : Value) (fp : List Nat) (w : World) (h : (Ty.mk 0 []).At w v fp) : Calls Tryd.prog 63 #[v] w (MadeT w (.mk 0 [])) := by
  obtain ⟨k, m, a, cap, rfl⟩ := h.agg
  have hB := (((Below.refl w.heap.size w).alloc (Nat.le_refl _) (Obj.cells #[.int .i64 k, .slice a m cap] 32)).alloc (by simp) (Obj.cells #[.int .i64 0, .slice none 0 0] 32))
  have HT := hid (show wkT unkT (.mk 0 []) (.mk 0 []) = .mk 0 [] by simp [wkT, wkTL])
  go_enter Tryd.func63, Tryd.ntmps63
  go_wp2_with fail
  refine (walkT_same 119 unkT 0 [] [] (by decide) rfl (Nat.zero_le _) (by simp) (by simp) (by simp) _ _ _ _ _ (h.below hB) (h.below hB)).mono ?_
  rw [HT.out]
  rintro e w1 ⟨v, f, rfl, hat, hf, hb⟩
  obtain ⟨kr, nr, ar, capr, rfl⟩ := hat.agg
  obtain ⟨x0, x1, r0, r1, rz⟩ := boxes2 hb
  have hM : w.heap.size + 1 < w1.heap.size := by have := hb.size; simp at this; omega
  have hbb := ((alloc2 hb).setCell (p := ⟨w.heap.size + 1, 0, none⟩) (by simp) (.int .i64 kr)).setCell (p := ⟨w.heap.size + 1, 1, none⟩) (by simp) (.slice ar nr capr)
  have hkr := keepR (R := w.heap.size + 1) (x := .int .i64 kr) (y := .slice ar nr capr) hat hf (by simp)
  go_wp2_with fail
  exact bodyPost_ret (v := .agg #[.int .i64 kr, .slice ar nr capr]) (by simp [results, Tryd.results63, go_sem, r0, r1]) rfl ⟨_, f, rfl, hkr.1, hkr.2.mono (by simp; omega), hbb⟩

theorem noTy_eq {t : Ty} (h : noTy t = true) : t = .mk 0 [] := by
  cases t with
  | mk k ts =>
    simp only [noTy, Bool.and_eq_true, beq_iff_eq] at h
    rw [h.1, List.length_eq_zero_iff.1 h.2]

/-- A type that a valid node may hold. -/
def okTy (t : Ty) : Prop := wf t ∨ noTy t = true

theorem copyType_ok (t : Ty) (v : Value) (fp : List Nat) (w : World) (h : t.At w v fp) (hw : okTy t) : Calls Tryd.prog 63 #[v] w (MadeT w t) := by
  rcases hw with hw | hw
  · exact copyType_any t v fp w h hw
  · rw [noTy_eq hw] at h ⊢
    exact copyType_zero v fp w h

/-- What a call says that hands back a node in memory of its own but for the operands, which are the argument's. -/
def MadeN (w : World) (k : Int) (nm : ByteArray) (num : Int) (ty fr : Ty) (lb : Int) (s : Value) (e : Ending) (w' : World) : Prop :=
  ∃ k1 n1 a1 c1 k2 n2 a2 c2 g1 g2, e = .returned (.tuple #[.agg #[.int .i64 k, .string nm, .int .i64 num, .int .i64 k1, .slice a1 n1 c1, .int .i64 k2, .slice a2 n2 c2, .int .i64 lb, s], .bool true]) ∧
    Ty.At w' ty (.agg #[.int .i64 k1, .slice a1 n1 c1]) g1 ∧ Ty.At w' fr (.agg #[.int .i64 k2, .slice a2 n2 c2]) g2 ∧ Fresh w.heap.size w' (g1 ++ g2) ∧ Below w.heap.size w w'

set_option maxRecDepth 100000 in
set_option maxHeartbeats 2000000 in
theorem copyNode_any (k : Int) (nm : ByteArray) (num : Int) (ty fr : Ty) (lb : Int) (a3 : Option Addr) (n3 c3 : Nat) (k1 k2 : Int) (n1 n2 c1 c2 : Nat) (a1 a2 : Option Addr) (f1 f2 : List Nat) (w : World)
    (ht1 : Ty.At w ty (.agg #[.int .i64 k1, .slice a1 n1 c1]) f1) (ht2 : Ty.At w fr (.agg #[.int .i64 k2, .slice a2 n2 c2]) f2) (h1 : okTy ty) (h2 : okTy fr) :
    Calls Tryd.prog 134 #[.agg #[.int .i64 k, .string nm, .int .i64 num, .int .i64 k1, .slice a1 n1 c1, .int .i64 k2, .slice a2 n2 c2, .int .i64 lb, .slice a3 n3 c3]] w (MadeN w k nm num ty fr lb (.slice a3 n3 c3)) := by
  have hb0 : Below w.heap.size w ((w.alloc (Obj.cells #[.int .i64 k, .string nm, .int .i64 num, .int .i64 k1, .slice a1 n1 c1, .int .i64 k2, .slice a2 n2 c2, .int .i64 lb, .slice a3 n3 c3] 35)).alloc
      (Obj.cells #[.int .i64 0, .string ByteArray.empty, .int .i64 0, .int .i64 0, .slice none 0 0, .int .i64 0, .slice none 0 0, .int .i64 0, .slice none 0 0] 35)) :=
    (((Below.refl _ _).alloc (Nat.le_refl _) _).alloc (by simp) _)
  go_enter Tryd.func134, Tryd.ntmps134
  go_wp2_with fail
  refine (copyType_ok ty _ _ _ (ht1.below hb0) h1).mono ?_
  rintro e w1 ⟨v1, g1, rfl, hv1, hg1, hb1⟩
  obtain ⟨j1, m1, p1, d1, rfl⟩ := hv1.agg
  obtain ⟨hB, hZ⟩ := two_out hb1
  obtain ⟨x0, x1, x2, x3, x4, x5, x6, x7, x8⟩ := cells9 hB
  have xz := fun o => frozen_of_block (o := o) hB
  have hs0 : ((w.alloc (Obj.cells #[.int .i64 k, .string nm, .int .i64 num, .int .i64 k1, .slice a1 n1 c1, .int .i64 k2, .slice a2 n2 c2, .int .i64 lb, .slice a3 n3 c3] 35)).alloc
      (Obj.cells #[.int .i64 0, .string ByteArray.empty, .int .i64 0, .int .i64 0, .slice none 0 0, .int .i64 0, .slice none 0 0, .int .i64 0, .slice none 0 0] 35)).heap.size = w.heap.size + 1 + 1 := by simp
  have b1 := below_trans hb0 hb1
  rw [hs0] at hg1
  have hM : w.heap.size + 1 < w1.heap.size := lt_of_block hZ
  clear hs0 hb1 hb0
  go_wp2_with fail
  have b2 := (b1.setCell (p := ⟨w.heap.size, 3, none⟩) (Nat.le_refl _) (.int .i64 j1)).setCell (p := ⟨w.heap.size, 4, none⟩) (Nat.le_refl _) (.slice p1 m1 d1)
  refine (copyType_ok fr _ _ _ (ht2.below b2) h2).mono ?_
  rintro e w2 ⟨v2, g2, rfl, hv2, hg2, hb2⟩
  obtain ⟨j2, m2, p2, d2, rfl⟩ := hv2.agg
  have ab1 := ((Above.refl (w.heap.size + 1 + 1) w1).setCell (p := ⟨w.heap.size, 3, none⟩) (by simp; omega) (.int .i64 j1)).setCell (p := ⟨w.heap.size, 4, none⟩) (by simp; omega) (.slice p1 m1 d1)
  have hv1' := (hv1.above ab1 hg1.ge).below hb2
  have F2 := Fresh.append (hg1.above ab1 (Nat.le_refl _)) hg2 (Nat.le_refl _) (by rw [size_setCell, size_setCell]; omega) hb2
  have hB2 : w2.heap[w.heap.size]? = some (.cells #[.int .i64 k, .string nm, .int .i64 num, .int .i64 j1, .slice p1 m1 d1, .int .i64 k2, .slice a2 n2 c2, .int .i64 lb, .slice a3 n3 c3] 35 (0, 0)) :=
    blk (heap_setCell_at (heap_setCell_at hB _) _) hb2
  have hZ2 := blk (blk_ne (a := ⟨w.heap.size, 4, none⟩) (u := .slice p1 m1 d1) (blk_ne (a := ⟨w.heap.size, 3, none⟩) (u := .int .i64 j1) hZ (by simp)) (by simp)) hb2
  have b3 := below_trans b2 hb2
  clear x0 x1 x2 x3 x4 x5 x6 x7 x8 xz hB hZ hv1 hg1 hg2 b1 b2 hb2 ab1
  obtain ⟨x0, x1, x2, x3, x4, x5, x6, x7, x8⟩ := cells9 hB2
  obtain ⟨y0, y1, y2, y3, y4, y5, y6, y7, y8⟩ := cells9 hZ2
  have xz := fun o => frozen_of_block (o := o) hB2
  have yz := fun o => frozen_of_block (o := o) hZ2
  have ab3 := Above.put (vs := [.int .i64 k, .string nm, .int .i64 num, .int .i64 j1, .slice p1 m1 d1, .int .i64 j2, .slice p2 m2 d2, .int .i64 lb, .slice a3 n3 c3]) (o := 0) (((Above.refl (w.heap.size + 1 + 1) w2).setCell (p := ⟨w.heap.size, 5, none⟩) (by simp; omega) (.int .i64 j2)).setCell (p := ⟨w.heap.size, 6, none⟩) (by simp; omega) (.slice p2 m2 d2)) (b := w.heap.size + 1) (by omega)
  have b6 := below_put (vs := [.int .i64 k, .string nm, .int .i64 num, .int .i64 j1, .slice p1 m1 d1, .int .i64 j2, .slice p2 m2 d2, .int .i64 lb, .slice a3 n3 c3]) (o := 0) ((b3.setCell (p := ⟨w.heap.size, 5, none⟩) (Nat.le_refl _) (.int .i64 j2)).setCell (p := ⟨w.heap.size, 6, none⟩) (Nat.le_refl _) (.slice p2 m2 d2)) (b := w.heap.size + 1) (by omega)
  have q1 := hv1'.above ab3 (fun b hb => F2.ge b (by simp [hb]))
  have q2 := hv2.above ab3 (fun b hb => F2.ge b (by simp [hb]))
  have F4 := (F2.above ab3 (Nat.le_refl _)).mono (B' := w.heap.size) (by omega)
  clear hv1' hv2 F2 ab3
  go_wp2_with fail
  exact bodyPost_ret (v := .tuple #[.agg #[.int .i64 k, .string nm, .int .i64 num, .int .i64 j1, .slice p1 m1 d1, .int .i64 j2, .slice p2 m2 d2, .int .i64 lb, .slice a3 n3 c3], .bool true]) (by simp [results, Tryd.results134, go_sem, y0, y1, y2, y3, y4, y5, y6, y7, y8]) rfl ⟨_, _, _, _, _, _, _, _, g1, g2, rfl, q1, q2, F4, b6⟩
end Go.Proofs.YtffmpjcjmffdeaaDoor

namespace Go.Proofs.YtffmpjcjmffdeaaDoor
open Go.RowKit

/-- From w to w' only new blocks and the block U have been written. -/
def Bx (U : Nat) (w w' : World) : Prop := w.grownBy w' (some U)

theorem Bx.refl (U : Nat) (w : World) : Bx U w w := World.grownBy.refl _ _
theorem Bx.of_below {U : Nat} {w w' : World} (h : Below w.heap.size w w') : Bx U w w' := grown_of_below h _
theorem Bx.size {U : Nat} {w w' : World} (h : Bx U w w') : w.heap.size ≤ w'.heap.size := World.grownBy.size h

theorem Bx.trans {U : Nat} {a b c : World} (h : Bx U a b) (k : Bx U b c) : Bx U a c :=
  ⟨k.os.trans h.os, k.tape.trans h.tape, k.output.trans h.output, Nat.le_trans h.size k.size, fun i hi hn => (k.block i (Nat.lt_of_lt_of_le hi h.size) hn).trans (h.block i hi hn)⟩

theorem Bx.trans_below {U B : Nat} {a b c : World} (h : Bx U a b) (k : Below B b c) (hB : a.heap.size ≤ B) : Bx U a c :=
  ⟨k.os.trans h.os, k.tape.trans h.tape, k.output.trans h.output, Nat.le_trans h.size k.size, fun i hi hn => (k.block i (by omega)).trans (h.block i hi hn)⟩

theorem Bx.setCell {U : Nat} {a b : World} (h : Bx U a b) {p : Addr} (hp : a.heap.size ≤ p.block) (u : Value) : Bx U a (b.setCell p u) :=
  h.trans_below ((Below.refl a.heap.size b).setCell hp u) (Nat.le_refl _)

theorem Bx.put {U : Nat} {a b : World} (h : Bx U a b) {M o : Nat} {vs : List Value} (hp : a.heap.size ≤ M) : Bx U a (Go.Proofs.YtffmpjcjmffdeaaDoor.put b M o vs) :=
  h.trans_below (below_put (Below.refl a.heap.size b) hp) (Nat.le_refl _)

theorem Bx.alloc {U : Nat} {a b : World} (h : Bx U a b) (o : Obj) : Bx U a (b.alloc o) := h.trans (Bx.of_below ((Below.refl _ _).alloc (Nat.le_refl _) _))

theorem Bx.block' {U : Nat} {w w' : World} (h : Bx U w w') {M : Nat} {o : Obj} (hM : w.heap[M]? = some o) (hn : M ≠ U) : w'.heap[M]? = some o :=
  (h.block M (lt_of_block hM) (fun e => hn (Option.some.inj e))).trans hM

theorem Bx.cell {U : Nat} {w w' : World} (h : Bx U w w') {b o : Nat} {u : Value} (hc : w.cell? ⟨b, o, none⟩ = some u) (hn : b ≠ U) : w'.cell? ⟨b, o, none⟩ = some u :=
  (World.grownBy.cell_far h ⟨b, o, none⟩ (World.block_lt_of_cell? _ _ hc) (fun e => hn (Option.some.inj e))).trans hc

theorem Bx.frozen {U : Nat} {w w' : World} (h : Bx U w w') {b o : Nat} {c : Bool} (hc : w.frozen? ⟨b, o, none⟩ = c) (hlt : b < w.heap.size) (hn : b ≠ U) : w'.frozen? ⟨b, o, none⟩ = c :=
  (World.grownBy.frozen_far h ⟨b, o, none⟩ hlt (fun e => hn (Option.some.inj e))).trans hc

theorem Bx.tm {U : Nat} {w w' : World} (h : Bx U w w') {t : Tm} {x : Value} {fp : List Nat} (ht : t.At w x fp) (hn : ∀ b ∈ fp, b ≠ U) : t.At w' x fp :=
  ht.congr fun b hb o => World.grownBy.cell_far h ⟨b, o, none⟩ (ht.lt b hb) (fun e => hn b hb (Option.some.inj e))

theorem Bx.sm {U : Nat} {w w' : World} (h : Bx U w w') {ts : List Tm} {x : Value} {fp : List Nat} (ht : SmAt w ts x fp) (hn : ∀ b ∈ fp, b ≠ U) : SmAt w' ts x fp :=
  ht.congr fun b hb o => World.grownBy.cell_far h ⟨b, o, none⟩ (ht.lt b hb) (fun e => hn b hb (Option.some.inj e))

theorem Bx.ty {U : Nat} {w w' : World} (h : Bx U w w') {t : Ty} {x : Value} {fp : List Nat} (ht : t.At w x fp) (hn : ∀ b ∈ fp, b ≠ U) : t.At w' x fp :=
  ht.congr fun b hb o => World.grownBy.cell_far h ⟨b, o, none⟩ (ht.lt b hb) (fun e => hn b hb (Option.some.inj e))

theorem Bx.fresh {U B : Nat} {w w' : World} (h : Bx U w w') {f : List Nat} (hf : Fresh B w f) (hU : U < B) : Fresh B w' f :=
  ⟨hf.1, fun b hb => ⟨(hf.2 b hb).1, Nat.lt_of_lt_of_le (hf.2 b hb).2.1 h.size, fun o => h.frozen ((hf.2 b hb).2.2 o) (hf.2 b hb).2.1 (by have := (hf.2 b hb).1; omega)⟩⟩

/-- Old blocks below B are as they were, if U lies from B on. -/
theorem Bx.below {U B : Nat} {w w' : World} (h : Bx U w w') (hB : B ≤ w.heap.size) (hU : B ≤ U) : Below B w w' :=
  ⟨h.os, h.tape, h.output, h.size, fun k hk => World.grownBy.block h k (by omega) (fun e => by have := Option.some.inj e; omega)⟩

theorem BuiltM.above {M : Nat} {T : TypeId} {n : Nat} {ds : List Tm} {fp : List Nat} {w w1 : World} (h : BuiltM M T n ds fp w) (hb : Above M w w1) (hs : w1.heap[M]? = w.heap[M]?) : BuiltM M T n ds fp w1 := by
  obtain ⟨C, hM, hC, hn, hl, hf⟩ := h
  have hMl := lt_of_block hM
  refine ⟨C, hs.trans hM, hC, hn, hl.congr (fun o => World.cell?_of_block (w := w) (a := ⟨M, o, none⟩) hs) (fun b hm o => World.cell?_of_block (w := w) (a := ⟨b, o, none⟩) (hb.block b (by have := hf.ge b hm; omega) (hl.lt b hm))), hf.above hb (by omega)⟩

theorem size_put {b : Nat} : ∀ {vs : List Value} {w : World} {o : Nat}, (put w b o vs).heap.size = w.heap.size
  | [], _, _ => rfl
  | v :: vs, w, o => by
    rw [put, size_put, size_setCell]

theorem heap_put_ne {M : Nat} : ∀ {vs : List Value} {w : World} {o b : Nat}, b ≠ M → (put w M o vs).heap[b]? = w.heap[b]?
  | [], _, _, _, _ => rfl
  | v :: vs, w, o, b, h => by
    rw [put, heap_put_ne h]
    exact Below.heap_setCell w _ v b h

theorem Ty.At.putne {w : World} {t : Ty} {v : Value} {fp : List Nat} {M o : Nat} {vs : List Value} (h : t.At w v fp) (hn : ∀ b ∈ fp, b ≠ M) : t.At (put w M o vs) v fp :=
  h.congr fun b hb o => World.cell?_of_block (w := w) (a := ⟨b, o, none⟩) (heap_put_ne (hn b hb))

theorem Fresh.putne {B : Nat} {M : Nat} : ∀ {vs : List Value} {w : World} {o : Nat} {fp : List Nat}, Fresh B w fp → (∀ b ∈ fp, b ≠ M) → Fresh B (put w M o vs) fp
  | [], _, _, _, h, _ => h
  | v :: vs, w, o, fp, h, hn => by
    rw [put]
    exact Fresh.putne (h.setCell (a := ⟨M, o, none⟩) hn v) hn

end Go.Proofs.YtffmpjcjmffdeaaDoor

namespace Go.Proofs.YtffmpjcjmffdeaaDoor
open Go.RowKit

/-- The variable of block M holds a slice of the call's own that reads as the types ds. -/
def ListAt (M B : Nat) (ds : List Ty) (v : Value) (w : World) : Prop := ∃ g, w.heap[M]? = some (.cells #[v] 30 (0, 0)) ∧ GrowT B ds v g w ∧ M < B

theorem ListAt.below {M B : Nat} {ds : List Ty} {v : Value} {w w' : World} (h : ListAt M B ds v w) (hb : Below w.heap.size w w') : ListAt M B ds v w' := by
  obtain ⟨g, h1, h2, h3⟩ := h
  exact ⟨g, blk h1 hb, h2.below hb, h3⟩

/-- From w to w' only new blocks, block M and v's own block have been written. -/
def Lr (M : Nat) (w w' : World) (v v' : Value) : Prop := (w'.os = w.os ∧ w'.tape = w.tape ∧ w'.output = w.output ∧ w.heap.size ≤ w'.heap.size) ∧ (∀ k, k < w.heap.size → k ≠ M → some k ≠ v.ownBlock → w'.heap[k]? = w.heap[k]?) ∧ (v'.ownBlock = v.ownBlock ∨ ∃ b, v'.ownBlock = some b ∧ w.heap.size ≤ b)

theorem Lr.of_below {M : Nat} {w w' : World} (h : Below w.heap.size w w') (v : Value) : Lr M w w' v v := ⟨⟨h.os, h.tape, h.output, h.size⟩, fun k hk _ _ => h.block k hk, .inl rfl⟩

theorem Lr.trans {M : Nat} {a b c : World} {x y z : Value} (h : Lr M a b x y) (k : Lr M b c y z) : Lr M a c x z := by
  obtain ⟨⟨h1, h2, h3, h4⟩, h5, h6⟩ := h
  obtain ⟨⟨k1, k2, k3, k4⟩, k5, k6⟩ := k
  refine ⟨⟨k1.trans h1, k2.trans h2, k3.trans h3, Nat.le_trans h4 k4⟩, fun i hi hM hn => ?_, ?_⟩
  · rw [k5 i (Nat.lt_of_lt_of_le hi h4) hM ?_, h5 i hi hM hn]
    rcases h6 with h6 | ⟨b, h6, hb⟩
    · rw [h6]; exact hn
    · rw [h6]
      intro e
      have := Option.some.inj e
      omega
  · rcases k6 with k6 | ⟨b, k6, hb⟩
    · rcases h6 with h6 | ⟨b, h6, hb⟩
      · exact .inl (k6.trans h6)
      · exact .inr ⟨b, k6.trans h6, hb⟩
    · exact .inr ⟨b, k6, Nat.le_trans h4 hb⟩

theorem Lr.heap {M : Nat} {w w' : World} {v v' : Value} (h : Lr M w w' v v') {k : Nat} {o : Obj} (hk : w.heap[k]? = some o) (hM : k ≠ M) (hn : some k ≠ v.ownBlock) : w'.heap[k]? = some o := (h.2.1 k (lt_of_block hk) hM hn).trans hk

theorem Lr.below {M B : Nat} {w w' : World} {v v' : Value} (h : Lr M w w' v v') (hMB : M < B) (hB : B ≤ w.heap.size) (ho : ∀ b, v.ownBlock = some b → B ≤ b) : Below M w w' :=
  ⟨h.1.1, h.1.2.1, h.1.2.2.1, h.1.2.2.2, fun k hk => h.2.1 k (by omega) (by omega) (fun e => by have := ho k e.symm; omega)⟩

theorem copyType_from {W0 U : World} {t : Ty} {v : Value} {fp : List Nat} (hU : Below W0.heap.size W0 U) (h : t.At W0 v fp) (hw : wf t) :
    Calls Tryd.prog 63 #[v] U fun e w' => (∃ v' f', e = .returned v' ∧ t.At w' v' f' ∧ Fresh U.heap.size w' f' ∧ Below U.heap.size U w') ∧ Below W0.heap.size W0 U :=
  (copyType_any t v fp U (h.below hU) hw).mono fun _ _ hm => ⟨hm, hU⟩

theorem news_in {w : World} {o o' : Obj} {w1 : World} (hb : Below ((w.alloc o).drew.alloc o').heap.size ((w.alloc o).drew.alloc o') w1) : w1.heap[w.heap.size + 1]? = some o' := by
  rw [hb.block _ (by simp)]
  have := alloc_new (w.alloc o).drew o'
  simpa using this

/-- The last element's cells of a row of the call's own. -/
theorem own_last {w : World} {B g n cap : Nat} {T : TypeId} {xs : List Value} {z0 z1 : Value} (h : w.ownsRow B T 2 (.slice (some ⟨g, 0, none⟩) (n + 1) cap) (n + 1) (xs ++ [z0, z1])) :
    (∃ a b, w.cell? ⟨g, n * 2, none⟩ = some a ∧ w.cell? ⟨g, n * 2 + 1, none⟩ = some b) ∧ ∀ o, w.frozen? ⟨g, o, none⟩ = false := by
  rcases h.2 with ⟨h0, _⟩ | ⟨g', cap', cur, e, hb, hg, hc, hm, hsz, hx⟩
  · cases h0
  · cases e
    refine ⟨⟨cur[n * 2]'(by omega), cur[n * 2 + 1]'(by omega), ?_, ?_⟩, fun o => frozen_of_block hg⟩
    · rw [cell_of_block hg]; exact Array.getElem?_eq_getElem _
    · rw [cell_of_block hg]; exact Array.getElem?_eq_getElem _

/-- The last element written. -/
theorem own_fill {w : World} {B g n cap : Nat} {T : TypeId} {xs : List Value} {z0 z1 : Value} (h : w.ownsRow B T 2 (.slice (some ⟨g, 0, none⟩) (n + 1) cap) (n + 1) (xs ++ [z0, z1])) (x y : Value) :
    ((w.setCell ⟨g, n * 2, none⟩ x).setCell ⟨g, n * 2 + 1, none⟩ y).ownsRow B T 2 (.slice (some ⟨g, 0, none⟩) (n + 1) cap) (n + 1) (xs ++ [x, y]) := by
  obtain ⟨h1, h2⟩ := h
  have hxl : xs.length = n * 2 := by simp at h1; omega
  refine ⟨by simp; omega, ?_⟩
  rcases h2 with ⟨h0, _⟩ | ⟨g', cap', cur, e, hb, hg, hc, hm, hsz, hx⟩
  · cases h0
  · cases e
    refine .inr ⟨g, cap, _, rfl, hb, heap_setCell_at (heap_setCell_at hg x) y, hc, hm, by simp [hsz], ?_⟩
    simp only [Array.toList_setIfInBounds]
    rw [List.take_set, List.take_set, hx, ← hxl, List.set_append_right _ _ (Nat.le_refl _), Nat.sub_self, List.set_append_right _ _ (by omega), show xs.length + 1 - xs.length = 1 by omega]
    rfl

theorem grown_store {w w' : World} {row : Option Nat} {g o : Nat} (h : w.grownBy w' row) (hg : row = some g ∨ w.heap.size ≤ g) (u : Value) : w.grownBy (w'.setCell ⟨g, o, none⟩ u) row :=
  ⟨h.os, h.tape, h.output, by rw [size_setCell]; exact h.size, fun k hk hn => (Below.heap_setCell _ _ _ _ (by
    intro e
    rcases hg with hg | hg
    · exact hn (by rw [hg]; exact congrArg some e)
    · have : k = g := e
      omega)).trans (h.block k hk hn)⟩

theorem setCell_comm (w : World) (a b : Addr) (u v : Value) (h : a.block ≠ b.block) : (w.setCell a u).setCell b v = (w.setCell b v).setCell a u := by
  simp only [World.setCell]
  congr 1
  apply Array.ext_getElem?
  intro i
  simp only [Array.getElem?_modify]
  by_cases h1 : a.block = i
  · by_cases h2 : b.block = i
    · exact absurd (h1.trans h2.symm) h
    · simp [h1, h2]
  · by_cases h2 : b.block = i
    · simp [h1, h2]
    · simp [h1, h2]

/-- What the visit leaves behind its three stores. -/
theorem visit_close {w w0 U w1 w2 w3 : World} {M B g3 cp : Nat} {ds : List Ty} {t : Ty} {v vold x y z0 z1 : Value} {g f' : List Nat} {xs : List Value} (hO : w0.heap[M]? = some (.cells #[vold] 30 (0, 0))) (hG1 : GrowT B ds v g w0)
    (hU : Below w0.heap.size w0 U) (hb1 : Below U.heap.size U w1) (ha1 : AtXs w1 ds xs g) (hf1 : Fresh B w1 g) (hn1 : ∀ b, v.ownBlock = some b → b ∉ g) (hat' : t.At w1 (.agg #[x, y]) f') (hf' : Fresh U.heap.size w1 f') (hw2 : Below w1.heap.size w1 w2)
    (hgrow : w2.grownBy w3 v.ownBlock) (hown3 : w3.ownsRow B 32 2 (.slice (some ⟨g3, 0, none⟩) (ds.length + 1) cp) (ds.length + 1) (xs ++ [z0, z1])) (hat4 : v.ownBlock = some g3 ∨ g3 = w2.heap.size) (hMB : M < B) (hBw : B ≤ w0.heap.size) (hb0 : Below w.heap.size w w0) (_hMlt : M < w.heap.size) :
    ListAt M B (ds ++ [t]) (.slice (some ⟨g3, 0, none⟩) (ds.length + 1) cp) (((w3.setCell ⟨g3, ds.length * 2, none⟩ x).setCell ⟨g3, ds.length * 2 + 1, none⟩ y).setCell ⟨M, 0, none⟩ (.slice (some ⟨g3, 0, none⟩) (ds.length + 1) cp)) ∧
      Lr M w (((w3.setCell ⟨g3, ds.length * 2, none⟩ x).setCell ⟨g3, ds.length * 2 + 1, none⟩ y).setCell ⟨M, 0, none⟩ (.slice (some ⟨g3, 0, none⟩) (ds.length + 1) cp)) v (.slice (some ⟨g3, 0, none⟩) (ds.length + 1) cp) := by
  have hgw : w2.grownBy ((w3.setCell ⟨g3, ds.length * 2, none⟩ x).setCell ⟨g3, ds.length * 2 + 1, none⟩ y) v.ownBlock :=
    grown_store (grown_store hgrow (hat4.imp id (fun h => by omega)) x) (hat4.imp id (fun h => by omega)) y
  have hG4 := GrowT.step (w := U) ha1 hf1 hn1 (fun b hb => Nat.lt_of_lt_of_le (hG1.block.1 b hb) hU.size) (fun b hb => Nat.lt_of_lt_of_le (hG1.block.2 b hb) hU.size) (Nat.le_trans hBw hU.size) hat' hf' hw2 hgw (own_fill hown3 x y) rfl hat4
  have hMo : some M ≠ v.ownBlock := fun e => by have := (hG1.own_ge M e.symm).1; omega
  have hM2 := blk (blk (blk hO hU) hb1) hw2
  have hM4 : ((w3.setCell ⟨g3, ds.length * 2, none⟩ x).setCell ⟨g3, ds.length * 2 + 1, none⟩ y).heap[M]? = _ := (hgw.block M (lt_of_block hM2) hMo).trans hM2
  have s0 := hb0.size
  have s1 := hU.size
  have s2 := hb1.size
  have s3 := hw2.size
  refine ⟨⟨_, heap_setCell_at hM4 _, hG4.setCell (p := ⟨M, 0, none⟩) hMB _, hMB⟩, ⟨⟨?_, ?_, ?_, ?_⟩, fun k hk hkM hn => ?_, ?_⟩⟩
  · exact hgw.os.trans (hw2.os.trans (hb1.os.trans (hU.os.trans hb0.os)))
  · exact hgw.tape.trans (hw2.tape.trans (hb1.tape.trans (hU.tape.trans hb0.tape)))
  · exact hgw.output.trans (hw2.output.trans (hb1.output.trans (hU.output.trans hb0.output)))
  · have := hgw.size
    rw [size_setCell]
    omega
  · rw [Below.heap_setCell _ _ _ _ hkM, hgw.block k (by omega) hn, hw2.block k (by omega), hb1.block k (by omega), hU.block k (by omega), hb0.block k hk]
  · rcases hat4 with h | h
    · exact .inl h.symm
    · exact .inr ⟨g3, rfl, by omega⟩

theorem mne {M B g S s0 : Nat} {v : Value} (ho : ∀ b, v.ownBlock = some b → B ≤ b ∧ b < s0) (hMB : M < B) (hat : v.ownBlock = some g ∨ g = S) (hM : M < S) : M ≠ g := by
  rcases hat with h | h
  · have := (ho g h).1
    omega
  · omega

theorem m_cell {w w' : World} {v u : Value} {M B s0 : Nat} (hg : w.grownBy w' v.ownBlock) (ho : ∀ b, v.ownBlock = some b → B ≤ b ∧ b < s0) (hMB : M < B) (hc : w.cell? ⟨M, 0, none⟩ = some u) : w'.cell? ⟨M, 0, none⟩ = some u :=
  (hg.cell_far ⟨M, 0, none⟩ (World.block_lt_of_cell? _ _ hc) (fun e => by have : M = M := rfl; have := (ho M e.symm).1; omega)).trans hc

theorem m_frozen {w w' : World} {v : Value} {M B s0 : Nat} {C : Array Value} {T : TypeId} (hg : w.grownBy w' v.ownBlock) (ho : ∀ b, v.ownBlock = some b → B ≤ b ∧ b < s0) (hMB : M < B) (hc : w.heap[M]? = some (.cells C T (0, 0))) : w'.frozen? ⟨M, 0, none⟩ = false :=
  (hg.frozen_far ⟨M, 0, none⟩ (lt_of_block hc) (fun e => by have := (ho M e.symm).1; omega)).trans (frozen_of_block hc)

end Go.Proofs.YtffmpjcjmffdeaaDoor

namespace Go.Proofs.YtffmpjcjmffdeaaDoor
open Go.RowKit

/-- The ground type of a kind. -/
def gk (k : Int) : Ty := .mk k (if k = 4 ∨ k = 5 then [.mk 1 [], .mk 1 []] else [])

/-- A new block of zero types of which the first j kinds have been set. -/
def Kinds (M n j : Nat) (wr : World) : Prop :=
  ∃ C : Array Value, wr.heap[M]? = some (.cells C 32 (0, 0)) ∧ C.size = n * 2 ∧ ∀ i, i < n → C[i * 2]? = some (.int .i64 (if i < j then 1 else 0)) ∧ C[i * 2 + 1]? = some (.slice none 0 0)

theorem Kinds.set {M n j : Nat} {w : World} (h : Kinds M n j w) (hj : j < n) : Kinds M n (j + 1) (w.setCell ⟨M, j * 2, none⟩ (.int .i64 1)) := by
  obtain ⟨C, hB, hC, hc⟩ := h
  refine ⟨_, heap_setCell_at hB _, by simp [hC], fun i hi => ⟨?_, ?_⟩⟩
  · by_cases hij : i = j
    · subst hij
      rw [if_pos (by omega)]
      simp [Array.getElem?_setIfInBounds, hC]
      omega
    · rw [Array.getElem?_setIfInBounds_ne (by omega), (hc i hi).1]
      by_cases h : i < j
      · rw [if_pos h, if_pos (by omega)]
      · rw [if_neg h, if_neg (by omega)]
  · rw [Array.getElem?_setIfInBounds_ne (by omega)]
    exact (hc i hi).2

theorem Kinds.done {M : Nat} {ts : List Ty} {w : World} (h : Kinds M ts.length ts.length w) (hp : 0 < ts.length) (hm : ts.length ≤ maxLen) : SlAt w (grdL ts) (.slice (some ⟨M, 0, none⟩) ts.length ts.length) [M] ∧ Fresh M w [M] := by
  obtain ⟨C, hB, hC, hc⟩ := h
  have hl : (grdL ts).length = ts.length := by simp [grdL]
  have hat : Ty.AtL w (grdL ts) M 0 (ts.map fun _ => ([] : List Nat)).flatten := idx_atL (by simp [grdL]) (fun i h h' => by
    have hi : i < ts.length := by rw [hl] at h; exact h
    refine ⟨1, .slice none 0 0, ?_, ?_, ?_, ?_⟩
    · rw [Nat.zero_add, cell_of_block hB, (hc i hi).1, if_pos hi]
    · rw [Nat.zero_add, cell_of_block hB, (hc i hi).2]
    · simp only [grdL, List.getElem_map, kidsT]
      exact .inl ⟨rfl, rfl, none, 0, rfl⟩
    · simp [grdL, kidsT])
  have hf : (ts.map fun _ => ([] : List Nat)).flatten = [] := by simp
  rw [hf] at hat
  exact ⟨.inr ⟨M, 0, _, [], by rw [hl], by rw [hl]; exact hp, by rw [hl]; exact Nat.le_refl _, by rw [hl]; exact hm, hat, rfl⟩, by simp, fun b hb => by
    obtain rfl : b = M := by simpa using hb
    exact ⟨Nat.le_refl _, lt_of_block hB, fun o => frozen_of_block hB⟩⟩

end Go.Proofs.YtffmpjcjmffdeaaDoor

namespace Go.Proofs.YtffmpjcjmffdeaaDoor
open Go.RowKit

def knownT : Ty → Ty → Ty
  | .mk k ts, u => if k = 1 then u else .mk k ts



mutual
theorem wkT_meet : ∀ t u : Ty, cons t u = true → wkT knownT t u = meet t u
  | .mk k ts, .mk k' us, hc => by
    simp only [wkT, meet, cons] at *
    by_cases hk : k = 1
    · subst hk
      simp [knownT]
    · by_cases hk' : k' = 1
      · subst hk'
        simp [knownT, hk]
      · rw [if_neg (by simp [hk, hk'])] at hc
        by_cases hkk : k = k'
        · subst hkk
          rw [if_pos rfl] at hc
          rw [if_neg (by simp [hk]), if_neg hk, if_neg hk, wkTL_meet ts us hc]
        · rw [if_neg hkk] at hc
          cases hc
theorem wkTL_meet : ∀ ts us : List Ty, consL ts us = true → wkTL knownT ts us = meetL ts us
  | [], _, _ => by simp only [wkTL, meetL]
  | _ :: _, [], _ => by simp only [wkTL, meetL]
  | t :: ts, u :: us, h => by
    simp only [consL, Bool.and_eq_true] at h
    simp only [wkTL, meetL]
    rw [wkT_meet t u h.1, wkTL_meet ts us h.2]
end

theorem callOk_known : CallOkT 127 := fun _ _ => by kernel_rfl

set_option maxHeartbeats 800000 in
theorem known_any : ApT 127 knownT := by
  intro t u v1 v2 f1 f2 w h1 h2 hw1 hw2
  obtain ⟨k, ts, rfl⟩ := t.shape
  obtain ⟨s, rfl, hs⟩ := Ty.at_mk.1 h1
  obtain ⟨a, cap, rfl⟩ := hs.shape
  obtain ⟨k', m', a', cap', rfl⟩ := h2.agg
  generalize ts.length = m at *
  have hB := ((((Below.refl w.heap.size w).alloc (Nat.le_refl _) (Obj.cells #[.int .i64 k, .slice a m cap] 32)).alloc (by simp) (Obj.cells #[.int .i64 k', .slice a' m' cap'] 32)).alloc (by simp; omega) (Obj.cells #[.int .i64 0, .slice none 0 0] 32))
  by_cases hk : k = 1
  · have HT := hid (show knownT (.mk k ts) u = u by simp [knownT, hk])
    subst hk
    go_enter Tryd.func127, Tryd.ntmps127
    go_wp2_with fail
    refine (copyType_any u _ _ _ (h2.below hB) hw2).mono ?_
    rintro e w1 ⟨v, f, rfl, hat, hf, hb⟩
    obtain ⟨kr, nr, ar, capr, rfl⟩ := hat.agg
    obtain ⟨x0, x1, x2, x3, r0, r1, rz⟩ := boxes3 hb
    have hM : w.heap.size + 1 + 1 < w1.heap.size := by have := hb.size; simp at this; omega
    have hbb := ((alloc3 hb).setCell (p := ⟨w.heap.size + 1 + 1, 0, none⟩) (by simp; omega) (.int .i64 kr)).setCell (p := ⟨w.heap.size + 1 + 1, 1, none⟩) (by simp; omega) (.slice ar nr capr)
    have hkr := keepR (R := w.heap.size + 1 + 1) (x := .int .i64 kr) (y := .slice ar nr capr) hat hf (by simp)
    go_wp2_with fail
    exact bodyPost_ret (v := .agg #[.int .i64 kr, .slice ar nr capr]) (by simp [results, Tryd.results127, go_sem, r0, r1]) rfl ⟨_, f, rfl, by rw [HT.out]; exact hkr.1, hkr.2.mono (by simp; omega), hbb⟩
  · have HT := hid (show knownT (.mk k ts) u = .mk k ts by simp [knownT, hk])
    have hk1 : (k == 1) = false := by simpa using hk
    clear hk
    go_enter Tryd.func127, Tryd.ntmps127
    go_wp2_with fail
    refine (copyType_any (.mk k ts) _ _ _ (h1.below hB) hw1).mono ?_
    rintro e w1 ⟨v, f, rfl, hat, hf, hb⟩
    obtain ⟨kr, nr, ar, capr, rfl⟩ := hat.agg
    obtain ⟨x0, x1, x2, x3, r0, r1, rz⟩ := boxes3 hb
    have hM : w.heap.size + 1 + 1 < w1.heap.size := by have := hb.size; simp at this; omega
    have hbb := ((alloc3 hb).setCell (p := ⟨w.heap.size + 1 + 1, 0, none⟩) (by simp; omega) (.int .i64 kr)).setCell (p := ⟨w.heap.size + 1 + 1, 1, none⟩) (by simp; omega) (.slice ar nr capr)
    have hkr := keepR (R := w.heap.size + 1 + 1) (x := .int .i64 kr) (y := .slice ar nr capr) hat hf (by simp)
    go_wp2_with fail
    exact bodyPost_ret (v := .agg #[.int .i64 kr, .slice ar nr capr]) (by simp [results, Tryd.results127, go_sem, r0, r1]) rfl ⟨_, f, rfl, by rw [HT.out]; exact hkr.1, hkr.2.mono (by simp; omega), hbb⟩

/-- What a call says that hands back a tree and whether there is one. -/
def MadeTB (w : World) (t : Ty) (ok : Bool) (e : Ending) (w' : World) : Prop := ∃ v fp, e = .returned (.tuple #[v, .bool ok]) ∧ t.At w' v fp ∧ Fresh w.heap.size w' fp ∧ Below w.heap.size w w'

def meetOf (t u : Ty) : Ty := if consOf t u then meet t u else .mk 0 []
end Go.Proofs.YtffmpjcjmffdeaaDoor

namespace Go.Proofs.YtffmpjcjmffdeaaDoor
open Go.RowKit

def kidsT8 : Ty → List Ty
  | .mk _ ts => ts

theorem shp_small8 : ∀ {d : Nat} {t : Ty}, shp d t = true → t.cnt + 2 ≤ 2 ^ (d + 1)
  | 0, _, h => by simp [shp] at h
  | d + 1, .mk k ts, h => by
    have hp : 0 < 2 ^ d := Nat.pow_pos (by omega)
    rcases shp_cases h with ⟨rfl, _⟩ | ⟨a, b, rfl, _, ha, hb⟩
    · simp only [Ty.cnt, cntL, List.length_nil, Nat.pow_succ]
      omega
    · have h1 := shp_small8 ha
      have h2 := shp_small8 hb
      simp only [Ty.cnt, cntL, List.length_cons, List.length_nil, Nat.pow_succ] at *
      omega

theorem shp_cnt8 {d : Nat} {t : Ty} (h : shp d t = true) (hd : d ≤ 4) : t.cnt ≤ 1048576 := by
  have h1 := shp_small8 h
  have h2 : 2 ^ (d + 1) ≤ 2 ^ 5 := Nat.pow_le_pow_right (by omega) (by omega)
  omega

end Go.Proofs.YtffmpjcjmffdeaaDoor

namespace Go.Proofs.YtffmpjcjmffdeaaDoor
open Go.RowKit

/-- The operands of two types of the same kind. -/
def subS (f : Int → Ty → Ty → Bool) (p k : Int) : List Ty → List Ty → Bool
  | [x, y], [x', y'] => if k = 4 then f (-p) x' x && f p y y' else f p x x' && f p y y'
  | _, _ => true

/-- The relation, for types of at most a depth. -/
def sub : Nat → Int → Ty → Ty → Bool
  | 0, _, _, _ => true
  | d + 1, p, a, b =>
    if kindT a = 1 then (kindT b == 1) || (p == -1)
    else if kindT b = 1 then (p == 1) || subS (sub d) p (kindT a) (kidsT8 a) (kidsT8 (gk (kindT a)))
    else if kindT a = kindT b then subS (sub d) p (kindT a) (kidsT8 a) (kidsT8 b)
    else false

/-- Two types of one kind, none of them unknown: leaves, or two operands each. -/
inductive SameK (d : Nat) : Ty → Ty → Prop
  | leaf (k : Int) (h : k = 2 ∨ k = 3) : SameK d (.mk k []) (.mk k [])
  | two (k : Int) (x y x' y' : Ty) (h : k = 4 ∨ k = 5) (hx : shp d x = true) (hy : shp d y = true) (hx' : shp d x' = true) (hy' : shp d y' = true) : SameK d (.mk k [x, y]) (.mk k [x', y'])

theorem sameK_of {d : Nat} {a b : Ty} (ha : shp (d + 1) a = true) (hb : shp (d + 1) b = true) (h1 : kindT a ≠ 1) (h : kindT a = kindT b) : SameK d a b := by
  obtain ⟨k, ts, rfl⟩ := a.shape
  obtain ⟨k', us, rfl⟩ := b.shape
  obtain rfl : k = k' := h
  have h1' : k ≠ 1 := h1
  rcases shp_cases ha with ⟨rfl, hk⟩ | ⟨x, y, rfl, hk, hx, hy⟩
  · rcases shp_cases hb with ⟨rfl, _⟩ | ⟨x', y', rfl, hk', _⟩
    · exact .leaf k (by omega)
    · omega
  · rcases shp_cases hb with ⟨rfl, hk'⟩ | ⟨x', y', rfl, _, hx', hy'⟩
    · omega
    · exact .two k x y x' y' hk hx hy hx' hy'

theorem sub_any1 (d : Nat) (p : Int) (a b : Ty) (h : kindT a = 1) : sub (d + 1) p a b = ((kindT b == 1) || (p == -1)) := by simp [sub, h]
theorem sub_same (d : Nat) (p : Int) (a b : Ty) (h : kindT a ≠ 1) (hb : kindT b ≠ 1) (he : kindT a = kindT b) : sub (d + 1) p a b = subS (sub d) p (kindT a) (kidsT8 a) (kidsT8 b) := by
  have h2 : ¬ kindT b = 1 := hb
  have h1 : ¬ kindT a = 1 := h
  unfold sub
  rw [if_neg h1, if_neg h2, if_pos he]
end Go.Proofs.YtffmpjcjmffdeaaDoor

namespace Go.Proofs.YtffmpjcjmffdeaaDoor
open Go.RowKit

/-- The ways in which two well-formed types can stand to each other. -/
theorem rel_cases {d : Nat} {a b : Ty} (ha : shp (d + 1) a = true) (hb : shp (d + 1) b = true) : kindT a = 1 ∨ kindT b = 1 ∨ (kindT a ≠ 1 ∧ kindT b ≠ 1 ∧ kindT a ≠ kindT b) ∨ (kindT a ≠ 1 ∧ kindT b ≠ 1 ∧ SameK d a b) := by
  by_cases h1 : kindT a = 1
  · exact .inl h1
  by_cases h2 : kindT b = 1
  · exact .inr (.inl h2)
  by_cases h3 : kindT a = kindT b
  · exact .inr (.inr (.inr ⟨h1, h2, sameK_of ha hb h1 h3⟩))
  · exact .inr (.inr (.inl ⟨h1, h2, h3⟩))

theorem kindT_mk (k : Int) (ts : List Ty) : kindT (.mk k ts) = k := rfl
theorem kids_mk (k : Int) (ts : List Ty) : kidsT8 (.mk k ts) = ts := rfl

theorem prec_any {a b : Ty} (h : kindT b = 1) : prec a b = true := by
  obtain ⟨k, ts, rfl⟩ := a.shape
  obtain ⟨k', us, rfl⟩ := b.shape
  simp [prec, show k' = 1 from h]
theorem prec_diff {a b : Ty} (h : kindT b ≠ 1) (he : kindT a ≠ kindT b) : prec a b = false := by
  obtain ⟨k, ts, rfl⟩ := a.shape
  obtain ⟨k', us, rfl⟩ := b.shape
  have h1 : ¬ k' = 1 := h
  have h2 : ¬ k = k' := he
  simp [prec, h1, h2]
theorem prec_two {k : Int} {x y x' y' : Ty} (hk : k = 4 ∨ k = 5) : prec (.mk k [x, y]) (.mk k [x', y']) = (prec x x' && prec y y') := by
  have : ¬ k = 1 := by omega
  simp [prec, precL, this]
theorem prec_leaf {k : Int} : prec (.mk k []) (.mk k []) = true := by
  by_cases h : k = 1 <;> simp [prec, precL, h]
theorem cons_any {a b : Ty} (h : kindT a = 1 ∨ kindT b = 1) : cons a b = true := by
  obtain ⟨k, ts, rfl⟩ := a.shape
  obtain ⟨k', us, rfl⟩ := b.shape
  have : k = 1 ∨ k' = 1 := h
  simp [cons, this]
theorem cons_diff {a b : Ty} (h1 : kindT a ≠ 1) (h2 : kindT b ≠ 1) (he : kindT a ≠ kindT b) : cons a b = false := by
  obtain ⟨k, ts, rfl⟩ := a.shape
  obtain ⟨k', us, rfl⟩ := b.shape
  have g1 : ¬ k = 1 := h1
  have g2 : ¬ k' = 1 := h2
  have g3 : ¬ k = k' := he
  simp [cons, g1, g2, g3]
theorem cons_two {k : Int} {x y x' y' : Ty} (hk : k = 4 ∨ k = 5) : cons (.mk k [x, y]) (.mk k [x', y']) = (cons x x' && cons y y') := by
  have : ¬ k = 1 := by omega
  simp [cons, consL, this]
theorem cons_leaf {k : Int} : cons (.mk k []) (.mk k []) = true := by
  by_cases h : k = 1 <;> simp [cons, consL, h]

/-- What is more precise has the same kind, or the other one is unknown. -/
theorem prec_kind {a b : Ty} (h : prec a b = true) : kindT b = 1 ∨ kindT a = kindT b := by
  by_cases h1 : kindT b = 1
  · exact .inl h1
  by_cases h2 : kindT a = kindT b
  · exact .inr h2
  · rw [prec_diff h1 h2] at h; cases h

theorem subS_two (f : Int → Ty → Ty → Bool) (p k : Int) (x y x' y' : Ty) : subS f p k [x, y] [x', y'] = if k = 4 then f (-p) x' x && f p y y' else f p x x' && f p y y' := rfl

/-- Consistency does not look at the order. -/
theorem cons_comm8 : ∀ (d : Nat) (a b : Ty), shp d a = true → shp d b = true → cons a b = true → cons b a = true
  | 0, a, _, ha, _, _ => by simp [shp] at ha
  | d + 1, a, b, ha, hb, h => by
    rcases rel_cases ha hb with h1 | h1 | ⟨h1, h2, h3⟩ | ⟨h1, h2, hs⟩
    · exact cons_any (.inr h1)
    · exact cons_any (.inl h1)
    · rw [cons_diff h1 h2 h3] at h; cases h
    · cases hs with
      | leaf k hk => exact cons_leaf
      | two k x y x' y' hk hx hy hx' hy' =>
        rw [cons_two hk, Bool.and_eq_true] at h ⊢
        exact ⟨cons_comm8 d _ _ hx hx' h.1, cons_comm8 d _ _ hy hy' h.2⟩

end Go.Proofs.YtffmpjcjmffdeaaDoor

namespace Go.Proofs.YtffmpjcjmffdeaaDoor
open Go.RowKit

set_option maxHeartbeats 800000 in
theorem implMeetTypes (t u : Ty) (v1 v2 : Value) (f1 f2 : List Nat) (w : World) (h1 : t.At w v1 f1) (h2 : u.At w v2 f2) (hn1 : t.cnt ≤ 1048576) (hn2 : u.cnt ≤ 1048576) :
    Calls Tryd.prog 77 #[v1, v2] w (MadeTB w (meetOf t u) (consOf t u)) := by
  obtain ⟨k, m, a, cap, rfl⟩ := h1.agg
  obtain ⟨k', m', a', cap', rfl⟩ := h2.agg
  have hB := ((((Below.refl w.heap.size w).alloc (Nat.le_refl _) (Obj.cells #[.int .i64 k, .slice a m cap] 32)).alloc (by simp) (Obj.cells #[.int .i64 k', .slice a' m' cap'] 32)).alloc (by simp; omega) (Obj.cells #[.int .i64 0, .slice none 0 0] 32))
  have HN1 := hid hn1
  have HN2 := hid hn2
  clear hn1 hn2
  cases hv : consOf t u with
  | false =>
    have HT := hid (show meetOf t u = .mk 0 [] by simp [meetOf, hv])
    have HV := hid hv
    clear hv
    go_enter Tryd.func77, Tryd.ntmps77
    go_wp2_with fail
    refine (implConsistent t u _ _ _ _ _ (h1.below hB) (h2.below hB)).mono ?_
    rintro e w1 ⟨he, hb3⟩
    rw [HV.out] at he
    subst he
    obtain ⟨x0, x1, x2, x3, r0, r1, rz⟩ := boxes3 hb3
    have hM : w.heap.size + 1 + 1 < w1.heap.size := by have := hb3.size; simp at this; omega
    have hbb := ((alloc3 hb3).setCell (p := ⟨w.heap.size + 1 + 1, 0, none⟩) (by simp; omega) (.int .i64 0)).setCell (p := ⟨w.heap.size + 1 + 1, 1, none⟩) (by simp; omega) (.slice none 0 0)
    go_wp2_with fail
    exact bodyPost_ret (v := .tuple #[.agg #[.int .i64 0, .slice none 0 0], .bool false]) (by simp [results, Tryd.results77, go_sem, r0, r1]) rfl ⟨_, [], rfl, by rw [HT.out]; exact Ty.at_mk.2 ⟨_, rfl, .inl ⟨rfl, rfl, none, 0, rfl⟩⟩, Fresh.nil _ _, hbb⟩
  | true =>
    have HT := hid (show meetOf t u = meet t u by simp [meetOf, hv])
    have hv3 := hv
    simp only [consOf, Bool.and_eq_true] at hv3
    have HW1 := hid (wf_of_vld hv3.1.1)
    have HW2 := hid (wf_of_vld hv3.1.2)
    have HC := hid hv3.2
    have HV := hid hv
    clear hv hv3
    go_enter Tryd.func77, Tryd.ntmps77
    go_wp2_with fail
    refine (implConsistent t u _ _ _ _ _ (h1.below hB) (h2.below hB)).mono ?_
    rintro e w1 ⟨he, hb3⟩
    rw [HV.out] at he
    subst he
    obtain ⟨x0, x1, x2, x3, r0, r1, rz⟩ := boxes3 hb3
    go_wp2_with fail
    refine (walkT_any _ _ known_any callOk_known t u _ _ _ _ _ ((h1.below hB).below hb3) ((h2.below hB).below hb3) HW1.out HW2.out).mono ?_
    rw [wkT_meet t u HC.out]
    rintro e wr ⟨v, f, rfl, hat, hf, hbr⟩
    clear x0 x1 x2 x3 r0 r1 rz
    obtain ⟨kr, nr, ar, capr, rfl⟩ := hat.agg
    have hb4 := hb3.trans (hbr.mono hb3.size)
    obtain ⟨x0, x1, x2, x3, r0, r1, rz⟩ := boxes3 hb4
    have hM : w.heap.size + 1 + 1 < wr.heap.size := by have := hb4.size; simp at this; omega
    have hbb := ((alloc3 hb4).setCell (p := ⟨w.heap.size + 1 + 1, 0, none⟩) (by simp; omega) (.int .i64 kr)).setCell (p := ⟨w.heap.size + 1 + 1, 1, none⟩) (by simp; omega) (.slice ar nr capr)
    have hkr := keepR (R := w.heap.size + 1 + 1) (x := .int .i64 kr) (y := .slice ar nr capr) hat hf (by have := hb3.size; simp at this; omega)
    go_wp2_with fail
    exact bodyPost_ret (v := .tuple #[.agg #[.int .i64 kr, .slice ar nr capr], .bool true]) (by simp [results, Tryd.results77, go_sem, r0, r1]) rfl ⟨_, f, rfl, by rw [HT.out]; exact hkr.1, hkr.2.mono (by have := hb3.size; simp at this; omega), hbb⟩

end Go.Proofs.YtffmpjcjmffdeaaDoor

namespace Go.Proofs.YtffmpjcjmffdeaaDoor
open Go.RowKit

/-- Blocks that were given, or that a call has made. -/
def SrcB (A : List Nat) (w w' : World) (f : List Nat) : Prop := ∀ b ∈ f, b ∈ A ∨ (w.heap.size ≤ b ∧ ∀ o, w'.frozen? ⟨b, o, none⟩ = false)

theorem SrcB.nil (A : List Nat) (w w' : World) : SrcB A w w' [] := fun b hb => by cases hb
theorem SrcB.given {A f : List Nat} {w w' : World} (h : ∀ b ∈ f, b ∈ A) : SrcB A w w' f := fun b hb => .inl (h b hb)
theorem SrcB.fresh {A f : List Nat} {B : Nat} {w w' : World} (h : Fresh B w' f) (hB : w.heap.size ≤ B) : SrcB A w w' f := fun b hb => .inr ⟨Nat.le_trans hB (h.2 b hb).1, (h.2 b hb).2.2⟩
theorem SrcB.append {A f g : List Nat} {w w' : World} (h : SrcB A w w' f) (k : SrcB A w w' g) : SrcB A w w' (f ++ g) := fun b hb => by
  rcases List.mem_append.1 hb with hb | hb
  · exact h b hb
  · exact k b hb
/-- Behind one more call. -/
theorem SrcB.later {A f : List Nat} {w w1 w2 : World} (h : SrcB A w w1 f) (hlt : ∀ b ∈ f, b < w1.heap.size) (hb : Below w1.heap.size w1 w2) : SrcB A w w2 f := fun b hm => by
  rcases h b hm with h | h
  · exact .inl h
  · exact .inr ⟨h.1, fun o => (hb.frozen (p := ⟨b, o, none⟩) (hlt b hm)).trans (h.2 o)⟩
/-- From what another call was given. -/
theorem SrcB.from {A A' f : List Nat} {w w1 w2 : World} (h : SrcB A' w1 w2 f) (hA : SrcB A w w1 A') (hlt : ∀ b ∈ A', b < w1.heap.size) (hs : w.heap.size ≤ w1.heap.size) (hb : Below w1.heap.size w1 w2) : SrcB A w w2 f := fun b hm => by
  rcases h b hm with h | h
  · exact hA.later hlt hb b h
  · exact .inr ⟨Nat.le_trans hs h.1, h.2⟩

/-- One above a pointer's block; nothing for nil. -/
def rk : Value → Nat
  | .pointer (some ⟨b, _, _⟩) => b + 1
  | _ => 0

/-- A pointer that reads as a scope: the innermost binding first; outer scopes are older. -/
def ScAt (w : World) : List Bd → Value → List Nat → Prop
  | [], v, fp => v = .pointer none ∧ fp = []
  | x :: xs, v, fp => ∃ b k n a c o f g, v = .pointer (some ⟨b, 0, none⟩) ∧ w.heap[b]? = some (.cells #[.string x.nm, .int .i64 k, .slice a n c, o] 131 (0, 0)) ∧ x.nm.size ≤ maxLen ∧ x.ty.At w (.agg #[.int .i64 k, .slice a n c]) f ∧ ScAt w xs o g ∧ rk o ≤ b ∧ fp = b :: (f ++ g)

theorem ScAt.lt {w : World} : ∀ {xs : List Bd} {v : Value} {fp : List Nat}, ScAt w xs v fp → ∀ b ∈ fp, b < w.heap.size
  | [], _, _, ⟨_, rfl⟩ => by simp
  | _ :: _, _, _, ⟨b, k, n, a, c, o, f, g, _, hb, _, ht, hs, _, rfl⟩ => fun y hy => by
    rcases List.mem_cons.1 hy with rfl | hy
    · exact lt_of_block hb
    · rcases List.mem_append.1 hy with hy | hy
      · exact ht.lt y hy
      · exact hs.lt y hy

theorem ScAt.below {w w' : World} : ∀ {xs : List Bd} {v : Value} {fp : List Nat}, ScAt w xs v fp → Below w.heap.size w w' → ScAt w' xs v fp
  | [], _, _, h, _ => h
  | _ :: _, _, _, ⟨b, k, n, a, c, o, f, g, hv, hb, hn, ht, hs, hr, hf⟩, h => ⟨b, k, n, a, c, o, f, g, hv, (h.block b (lt_of_block hb)).trans hb, hn, ht.below h, hs.below h, hr, hf⟩

/-- The type of the innermost binding of a name. -/
def look : List Bd → ByteArray → Option Ty
  | [], _ => none
  | x :: xs, nm => if x.nm = nm then some x.ty else look xs nm
end Go.Proofs.YtffmpjcjmffdeaaDoor

namespace Go.Proofs.YtffmpjcjmffdeaaDoor
open Go.RowKit

def MadeTT (w : World) (t u : Ty) (ok : Bool) (e : Ending) (w' : World) : Prop := ∃ v1 v2 f1 f2 M, e = .returned (.tuple #[v1, v2, .bool ok]) ∧ t.At w' v1 f1 ∧ u.At w' v2 f2 ∧ Fresh w.heap.size w' f1 ∧ Fresh w.heap.size w' f2 ∧
  Within w.heap.size M f1 ∧ Within M w'.heap.size f2 ∧ w.heap.size ≤ M ∧ M ≤ w'.heap.size ∧ Below w.heap.size w w'

theorem within_nil (a b : Nat) : Within a b [] := fun b hb => by cases hb

theorem MadeTT.leaf {w w' : World} {k l : Int} {ok : Bool} (hb : Below w.heap.size w w') : MadeTT w (.mk k []) (.mk l []) ok (.returned (.tuple #[.agg #[.int .i64 k, .slice none 0 0], .agg #[.int .i64 l, .slice none 0 0], .bool ok])) w' :=
  ⟨_, _, [], [], w.heap.size, rfl, Ty.at_mk.2 ⟨_, rfl, .inl ⟨rfl, rfl, none, 0, rfl⟩⟩, Ty.at_mk.2 ⟨_, rfl, .inl ⟨rfl, rfl, none, 0, rfl⟩⟩, Fresh.nil _ _, Fresh.nil _ _, within_nil _ _, within_nil _ _, Nat.le_refl _, hb.size, hb⟩

/-- Four stores into two blocks of results: what was made stays, what lay there stays. -/
theorem MadeTT.stored {w w1 : World} {t u : Ty} {ok : Bool} {v1 v2 x y x' y' : Value} {f1 f2 : List Nat} {R M A B : Nat} (h1 : t.At w1 v1 f1) (h2 : u.At w1 v2 f2) (hf1 : Fresh R w1 f1) (hf2 : Fresh R w1 f2) (hi1 : Within R M f1) (hi2 : Within M w1.heap.size f2) (hM : R ≤ M) (hM2 : M ≤ w1.heap.size) (hS : w.heap.size ≤ R)
    (hA : A < R) (hB : B < R) (hA' : w.heap.size ≤ A) (hB' : w.heap.size ≤ B) (hb : Below w.heap.size w w1) :
    MadeTT w t u ok (.returned (.tuple #[v1, v2, .bool ok])) ((((w1.setCell ⟨A, 0, none⟩ x).setCell ⟨A, 1, none⟩ y).setCell ⟨B, 0, none⟩ x').setCell ⟨B, 1, none⟩ y') := by
  have hab := ((((Above.refl R w1).setCell (p := ⟨A, 0, none⟩) hA x).setCell (p := ⟨A, 1, none⟩) hA y).setCell (p := ⟨B, 0, none⟩) hB x').setCell (p := ⟨B, 1, none⟩) hB y'
  have hbb := (((hb.setCell (p := ⟨A, 0, none⟩) hA' x).setCell (p := ⟨A, 1, none⟩) hA' y).setCell (p := ⟨B, 0, none⟩) hB' x').setCell (p := ⟨B, 1, none⟩) hB' y'
  exact ⟨v1, v2, f1, f2, M, rfl, h1.above hab hf1.ge, h2.above hab hf2.ge, (hf1.above hab (Nat.le_refl _)).mono hS, (hf2.above hab (Nat.le_refl _)).mono hS, fun b hb => ⟨Nat.le_trans hS (hi1 b hb).1, (hi1 b hb).2⟩, by simpa using hi2, Nat.le_trans hS hM, by simpa using hM2, hbb⟩

end Go.Proofs.YtffmpjcjmffdeaaDoor

namespace Go.Proofs.YtffmpjcjmffdeaaDoor
open Go.RowKit

set_option maxHeartbeats 800000 in
theorem l1Meet_left (k : Int) (ts : List Ty) (k' : Int) (us : List Ty) (hk : k = 1) (v1 v2 : Value) (f1 f2 : List Nat) (w : World) (h1 : Ty.At w (.mk k ts) v1 f1) (h2 : Ty.At w (.mk k' us) v2 f2) (hn2 : (Ty.mk k' us).cnt ≤ 1048576) :
    Calls Tryd.prog 74 #[v1, v2] w (MadeT w (meet (.mk k ts) (.mk k' us))) := by
  obtain ⟨s, rfl, hs⟩ := Ty.at_mk.1 h1
  obtain ⟨a, cap, rfl⟩ := hs.shape
  obtain ⟨s', rfl, hs'⟩ := Ty.at_mk.1 h2
  obtain ⟨a', cap', rfl⟩ := hs'.shape
  generalize ts.length = m at *
  generalize us.length = m' at *
  have hB := ((((Below.refl w.heap.size w).alloc (Nat.le_refl _) (Obj.cells #[.int .i64 k, .slice a m cap] 32)).alloc (by simp) (Obj.cells #[.int .i64 k', .slice a' m' cap'] 32)).alloc (by simp; omega) (Obj.cells #[.int .i64 0, .slice none 0 0] 32))
  have HT := hid (show meet (.mk k ts) (.mk k' us) = (Ty.mk k' us) by simp [meet, hk])
  have HN := hid hn2
  clear hn2
  subst hk
  go_enter Tryd.func74, Tryd.ntmps74
  go_wp2_with fail
  refine (l1Copy_any (Ty.mk k' us) _ _ _ (h2.below hB) HN.out).mono ?_
  rintro e w1 ⟨v, f, rfl, hat, hf, hb⟩
  obtain ⟨kr, nr, ar, capr, rfl⟩ := hat.agg
  obtain ⟨x0, x1, x2, x3, r0, r1, rz⟩ := boxes3 hb
  have hM : w.heap.size + 1 + 1 < w1.heap.size := by have := hb.size; simp at this; omega
  have hbb := ((alloc3 hb).setCell (p := ⟨w.heap.size + 1 + 1, 0, none⟩) (by simp; omega) (.int .i64 kr)).setCell (p := ⟨w.heap.size + 1 + 1, 1, none⟩) (by simp; omega) (.slice ar nr capr)
  have hkr := keepR (R := w.heap.size + 1 + 1) (x := .int .i64 kr) (y := .slice ar nr capr) hat hf (by simp)
  go_wp2_with fail
  exact bodyPost_ret (v := .agg #[.int .i64 kr, .slice ar nr capr]) (by simp [results, Tryd.results74, go_sem, r0, r1]) rfl ⟨_, f, rfl, by rw [HT.out]; exact hkr.1, hkr.2.mono (by simp; omega), hbb⟩

set_option maxHeartbeats 800000 in
theorem l1Meet_right (k : Int) (ts : List Ty) (k' : Int) (us : List Ty) (hk : k ≠ 1) (hk' : k' = 1) (v1 v2 : Value) (f1 f2 : List Nat) (w : World) (h1 : Ty.At w (.mk k ts) v1 f1) (h2 : Ty.At w (.mk k' us) v2 f2) (hn1 : (Ty.mk k ts).cnt ≤ 1048576) :
    Calls Tryd.prog 74 #[v1, v2] w (MadeT w (meet (.mk k ts) (.mk k' us))) := by
  obtain ⟨s, rfl, hs⟩ := Ty.at_mk.1 h1
  obtain ⟨a, cap, rfl⟩ := hs.shape
  obtain ⟨s', rfl, hs'⟩ := Ty.at_mk.1 h2
  obtain ⟨a', cap', rfl⟩ := hs'.shape
  generalize ts.length = m at *
  generalize us.length = m' at *
  have hB := ((((Below.refl w.heap.size w).alloc (Nat.le_refl _) (Obj.cells #[.int .i64 k, .slice a m cap] 32)).alloc (by simp) (Obj.cells #[.int .i64 k', .slice a' m' cap'] 32)).alloc (by simp; omega) (Obj.cells #[.int .i64 0, .slice none 0 0] 32))
  have HT := hid (show meet (.mk k ts) (.mk k' us) = (Ty.mk k ts) by simp [meet, hk, hk'])
  have HN := hid hn1
  clear hn1
  have hk1 : (k == 1) = false := by simpa using hk
  subst hk'
  clear hk
  go_enter Tryd.func74, Tryd.ntmps74
  go_wp2_with fail
  refine (l1Copy_any (Ty.mk k ts) _ _ _ (h1.below hB) HN.out).mono ?_
  rintro e w1 ⟨v, f, rfl, hat, hf, hb⟩
  obtain ⟨kr, nr, ar, capr, rfl⟩ := hat.agg
  obtain ⟨x0, x1, x2, x3, r0, r1, rz⟩ := boxes3 hb
  have hM : w.heap.size + 1 + 1 < w1.heap.size := by have := hb.size; simp at this; omega
  have hbb := ((alloc3 hb).setCell (p := ⟨w.heap.size + 1 + 1, 0, none⟩) (by simp; omega) (.int .i64 kr)).setCell (p := ⟨w.heap.size + 1 + 1, 1, none⟩) (by simp; omega) (.slice ar nr capr)
  have hkr := keepR (R := w.heap.size + 1 + 1) (x := .int .i64 kr) (y := .slice ar nr capr) hat hf (by simp)
  go_wp2_with fail
  exact bodyPost_ret (v := .agg #[.int .i64 kr, .slice ar nr capr]) (by simp [results, Tryd.results74, go_sem, r0, r1]) rfl ⟨_, f, rfl, by rw [HT.out]; exact hkr.1, hkr.2.mono (by simp; omega), hbb⟩

theorem l1Meet_any : ∀ t : Ty, MtC t := Ty.ind fun k ts ih => by
  intro u v1 v2 f1 f2 w h1 h2 hw1 hw2 hc hn1 hn2
  obtain ⟨k', us, rfl⟩ := u.shape
  by_cases hk : k = 1
  · exact l1Meet_left k ts k' us hk v1 v2 f1 f2 w h1 h2 hn2
  · by_cases hk' : k' = 1
    · exact l1Meet_right k ts k' us hk hk' v1 v2 f1 f2 w h1 h2 hn1
    · simp only [cons] at hc
      rw [if_neg (by simp [hk, hk'])] at hc
      by_cases hkk : k = k'
      · subst hkk
        rw [if_pos rfl] at hc
        exact l1Meet_build k ts us ih hk (wf_len hw1 hw2) (wf_mk hw1).2 (wf_mk hw2).2 hc hn1 hn2 (by simp [meet, hk]) v1 v2 f1 f2 w h1 h2
      · rw [if_neg hkk] at hc
        cases hc

end Go.Proofs.YtffmpjcjmffdeaaDoor

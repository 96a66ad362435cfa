/- The specification's l4Type: what is wanted, and its leaves. -/
import Derived.Test.YtffmpjcjmffdeaaDoorRTe2
import Derived.Test.YtffmpjcjmffdeaaDoorRTs3
import Derived.Test.YtffmpjcjmffdeaaDoorRTyE
namespace Go.Proofs.YtffmpjcjmffdeaaDoor
open Go.RowKit

theorem tyX_vld {d : Nat} {xs : List Bd} {t : Tm} {u : Ty} (h : tyX xs t = some u) (hs : shpC d t = true) (hx : ∀ x ∈ xs, vld x.ty = true) : vld u = true := by
  obtain ⟨p, -, -, h3⟩ := chM_ex t d xs 0 hs hx
  exact h3 u h

theorem tyXL_none {xs : List Bd} : ∀ {ts : List Tm} {t : Tm}, t ∈ ts → tyX xs t = none → tyXL xs ts = none
  | [], t, h, _ => by cases h
  | t' :: ts, t, h, hn => by
    rcases List.mem_cons.1 h with rfl | h
    · simp only [tyXL, hn]; rfl
    · simp only [tyXL, tyXL_none h hn]
      cases tyX xs t' <;> rfl

theorem tyXL_snoc {xs : List Bd} {t : Tm} {u : Ty} (hu : tyX xs t = some u) : ∀ {ts : List Tm} {us : List Ty}, tyXL xs ts = some us → tyXL xs (ts ++ [t]) = some (us ++ [u])
  | [], us, h => by
    simp only [tyXL, Option.some.injEq] at h
    subst h
    simp only [List.nil_append, tyXL, hu]; rfl
  | t' :: ts, us, h => by
    simp only [tyXL] at h
    cases h1 : tyX xs t' with
    | none => rw [h1] at h; cases h
    | some u' =>
      rw [h1] at h
      cases h2 : tyXL xs ts with
      | none => rw [h2] at h; cases h
      | some us' =>
        rw [h2] at h
        cases h
        simp only [List.cons_append, tyXL, h1, tyXL_snoc hu h2]; rfl

def TyD (d : Nat) : Prop := ∀ (t : Tm) (xs : List Bd) (s v : Value) (fs fe : List Nat) (w : World), shpC d t = true → BsAt w xs s fs → t.At w v fe → (∀ x ∈ xs, vld x.ty = true) → xs.length + d ≤ 1000000 →
  Calls Tryd.prog 70 #[s, v] w (MadeTO w (tyX xs.reverse t))


set_option maxRecDepth 100000 in
set_option maxHeartbeats 2000000 in
theorem tx_1 (nm : ByteArray) (num : Int) (ty fr : Ty) (lb : Int) (ts : List Tm) (o : Option Ty) (s v : Value) (fe : List Nat) (w : World) (hat : Tm.At w (.mk 1 nm num ty fr lb ts) v fe)
    (hl : ∀ W, Below w.heap.size w W → Calls Tryd.prog 58 #[s, v] W (MadeTO W o)) : Calls Tryd.prog 70 #[s, v] w (MadeTO w o) := by
  obtain ⟨k1, n1, a1, c1, k2, n2, a2, c2, a3, c3, f1, f2, f3, rfl, hnm, ht1, ht2, rfl, hs3⟩ := hat.parts
  have HB := hid (show Below w.heap.size w ((w.alloc (Obj.cells #[.int .i64 1, .string nm, .int .i64 num, .int .i64 k1, .slice a1 n1 c1, .int .i64 k2, .slice a2 n2 c2, .int .i64 lb, .slice a3 ts.length c3] 35)).alloc (Obj.cells #[.int .i64 0, .slice none 0 0] 32)) from ((Below.refl _ _).alloc (Nat.le_refl _) _).alloc (by simp) _)
  have HSZ := hid (show (((w.alloc (Obj.cells #[.int .i64 1, .string nm, .int .i64 num, .int .i64 k1, .slice a1 n1 c1, .int .i64 k2, .slice a2 n2 c2, .int .i64 lb, .slice a3 ts.length c3] 35)).alloc (Obj.cells #[.int .i64 0, .slice none 0 0] 32))).heap.size = w.heap.size + 1 + 1 by simp)
  have HQW := hid (fun (W : World) (h : Below (((w.alloc (Obj.cells #[.int .i64 1, .string nm, .int .i64 num, .int .i64 k1, .slice a1 n1 c1, .int .i64 k2, .slice a2 n2 c2, .int .i64 lb, .slice a3 ts.length c3] 35)).alloc (Obj.cells #[.int .i64 0, .slice none 0 0] 32))).heap.size ((w.alloc (Obj.cells #[.int .i64 1, .string nm, .int .i64 num, .int .i64 k1, .slice a1 n1 c1, .int .i64 k2, .slice a2 n2 c2, .int .i64 lb, .slice a3 ts.length c3] 35)).alloc (Obj.cells #[.int .i64 0, .slice none 0 0] 32)) W) => (two_out h).2)
  obtain ⟨z0, z1, z2, z3, z4, z5, z6, z7, z8⟩ := cells9 (two_out (Below.refl _ ((w.alloc (Obj.cells #[.int .i64 1, .string nm, .int .i64 num, .int .i64 k1, .slice a1 n1 c1, .int .i64 k2, .slice a2 n2 c2, .int .i64 lb, .slice a3 ts.length c3] 35)).alloc (Obj.cells #[.int .i64 0, .slice none 0 0] 32)))).1
  have HL := hid (hl _ HB.out)
  clear hat ht1 ht2 hs3 hl
  go_enter Tryd.func70, Tryd.ntmps70
  go_wp2_with fail
  refine HL.out.mono ?_
  rintro e w1 ⟨T, hT, v1, g1, rfl, h1, hg1, hb1⟩
  obtain ⟨k5, n5, a5, c5, rfl⟩ := h1.agg
  have q := HQW.out w1 hb1
  have r0 : w1.cell? ⟨w.heap.size + 1, 0, none⟩ = some (.int .i64 0) := by rw [cell_of_block q]; rfl
  have r1 : w1.cell? ⟨w.heap.size + 1, 1, none⟩ = some (.slice none 0 0) := by rw [cell_of_block q]; rfl
  have rz := fun o => frozen_of_block (o := o) q
  have rl := lt_of_block q
  have FIN := hid (MadeTO.stored (w := w) (P := w.heap.size + 1) (o := o) (T := T) hT rfl h1 hg1 (by rw [HSZ.out]; omega) (by omega) (below_trans HB.out hb1))
  generalize o.isSome = bb at *
  clear q hb1 h1 hg1 HQW HB HSZ HL hT
  go_wp2_with fail
  exact bodyPost_ret (v := .tuple #[.agg #[.int .i64 k5, .slice a5 n5 c5], .bool bb]) (by simp [results, Tryd.results70, go_sem, r0, r1]) rfl FIN.out


set_option maxRecDepth 100000 in
set_option maxHeartbeats 2000000 in
theorem tx_2 (nm : ByteArray) (num : Int) (ty fr : Ty) (lb : Int) (ts : List Tm) (o : Option Ty) (s v : Value) (fe : List Nat) (w : World) (hat : Tm.At w (.mk 2 nm num ty fr lb ts) v fe)
    (hl : ∀ W, Below w.heap.size w W → Calls Tryd.prog 58 #[s, v] W (MadeTO W o)) : Calls Tryd.prog 70 #[s, v] w (MadeTO w o) := by
  obtain ⟨k1, n1, a1, c1, k2, n2, a2, c2, a3, c3, f1, f2, f3, rfl, hnm, ht1, ht2, rfl, hs3⟩ := hat.parts
  have HB := hid (show Below w.heap.size w ((w.alloc (Obj.cells #[.int .i64 2, .string nm, .int .i64 num, .int .i64 k1, .slice a1 n1 c1, .int .i64 k2, .slice a2 n2 c2, .int .i64 lb, .slice a3 ts.length c3] 35)).alloc (Obj.cells #[.int .i64 0, .slice none 0 0] 32)) from ((Below.refl _ _).alloc (Nat.le_refl _) _).alloc (by simp) _)
  have HSZ := hid (show (((w.alloc (Obj.cells #[.int .i64 2, .string nm, .int .i64 num, .int .i64 k1, .slice a1 n1 c1, .int .i64 k2, .slice a2 n2 c2, .int .i64 lb, .slice a3 ts.length c3] 35)).alloc (Obj.cells #[.int .i64 0, .slice none 0 0] 32))).heap.size = w.heap.size + 1 + 1 by simp)
  have HQW := hid (fun (W : World) (h : Below (((w.alloc (Obj.cells #[.int .i64 2, .string nm, .int .i64 num, .int .i64 k1, .slice a1 n1 c1, .int .i64 k2, .slice a2 n2 c2, .int .i64 lb, .slice a3 ts.length c3] 35)).alloc (Obj.cells #[.int .i64 0, .slice none 0 0] 32))).heap.size ((w.alloc (Obj.cells #[.int .i64 2, .string nm, .int .i64 num, .int .i64 k1, .slice a1 n1 c1, .int .i64 k2, .slice a2 n2 c2, .int .i64 lb, .slice a3 ts.length c3] 35)).alloc (Obj.cells #[.int .i64 0, .slice none 0 0] 32)) W) => (two_out h).2)
  obtain ⟨z0, z1, z2, z3, z4, z5, z6, z7, z8⟩ := cells9 (two_out (Below.refl _ ((w.alloc (Obj.cells #[.int .i64 2, .string nm, .int .i64 num, .int .i64 k1, .slice a1 n1 c1, .int .i64 k2, .slice a2 n2 c2, .int .i64 lb, .slice a3 ts.length c3] 35)).alloc (Obj.cells #[.int .i64 0, .slice none 0 0] 32)))).1
  have HL := hid (hl _ HB.out)
  clear hat ht1 ht2 hs3 hl
  go_enter Tryd.func70, Tryd.ntmps70
  go_wp2_with fail
  refine HL.out.mono ?_
  rintro e w1 ⟨T, hT, v1, g1, rfl, h1, hg1, hb1⟩
  obtain ⟨k5, n5, a5, c5, rfl⟩ := h1.agg
  have q := HQW.out w1 hb1
  have r0 : w1.cell? ⟨w.heap.size + 1, 0, none⟩ = some (.int .i64 0) := by rw [cell_of_block q]; rfl
  have r1 : w1.cell? ⟨w.heap.size + 1, 1, none⟩ = some (.slice none 0 0) := by rw [cell_of_block q]; rfl
  have rz := fun o => frozen_of_block (o := o) q
  have rl := lt_of_block q
  have FIN := hid (MadeTO.stored (w := w) (P := w.heap.size + 1) (o := o) (T := T) hT rfl h1 hg1 (by rw [HSZ.out]; omega) (by omega) (below_trans HB.out hb1))
  generalize o.isSome = bb at *
  clear q hb1 h1 hg1 HQW HB HSZ HL hT
  go_wp2_with fail
  exact bodyPost_ret (v := .tuple #[.agg #[.int .i64 k5, .slice a5 n5 c5], .bool bb]) (by simp [results, Tryd.results70, go_sem, r0, r1]) rfl FIN.out


set_option maxRecDepth 100000 in
set_option maxHeartbeats 2000000 in
theorem tx_3 (nm : ByteArray) (num : Int) (ty fr : Ty) (lb : Int) (ts : List Tm) (o : Option Ty) (s v : Value) (fe : List Nat) (w : World) (hat : Tm.At w (.mk 3 nm num ty fr lb ts) v fe)
    (hl : ∀ W, Below w.heap.size w W → Calls Tryd.prog 58 #[s, v] W (MadeTO W o)) : Calls Tryd.prog 70 #[s, v] w (MadeTO w o) := by
  obtain ⟨k1, n1, a1, c1, k2, n2, a2, c2, a3, c3, f1, f2, f3, rfl, hnm, ht1, ht2, rfl, hs3⟩ := hat.parts
  have HB := hid (show Below w.heap.size w ((w.alloc (Obj.cells #[.int .i64 3, .string nm, .int .i64 num, .int .i64 k1, .slice a1 n1 c1, .int .i64 k2, .slice a2 n2 c2, .int .i64 lb, .slice a3 ts.length c3] 35)).alloc (Obj.cells #[.int .i64 0, .slice none 0 0] 32)) from ((Below.refl _ _).alloc (Nat.le_refl _) _).alloc (by simp) _)
  have HSZ := hid (show (((w.alloc (Obj.cells #[.int .i64 3, .string nm, .int .i64 num, .int .i64 k1, .slice a1 n1 c1, .int .i64 k2, .slice a2 n2 c2, .int .i64 lb, .slice a3 ts.length c3] 35)).alloc (Obj.cells #[.int .i64 0, .slice none 0 0] 32))).heap.size = w.heap.size + 1 + 1 by simp)
  have HQW := hid (fun (W : World) (h : Below (((w.alloc (Obj.cells #[.int .i64 3, .string nm, .int .i64 num, .int .i64 k1, .slice a1 n1 c1, .int .i64 k2, .slice a2 n2 c2, .int .i64 lb, .slice a3 ts.length c3] 35)).alloc (Obj.cells #[.int .i64 0, .slice none 0 0] 32))).heap.size ((w.alloc (Obj.cells #[.int .i64 3, .string nm, .int .i64 num, .int .i64 k1, .slice a1 n1 c1, .int .i64 k2, .slice a2 n2 c2, .int .i64 lb, .slice a3 ts.length c3] 35)).alloc (Obj.cells #[.int .i64 0, .slice none 0 0] 32)) W) => (two_out h).2)
  obtain ⟨z0, z1, z2, z3, z4, z5, z6, z7, z8⟩ := cells9 (two_out (Below.refl _ ((w.alloc (Obj.cells #[.int .i64 3, .string nm, .int .i64 num, .int .i64 k1, .slice a1 n1 c1, .int .i64 k2, .slice a2 n2 c2, .int .i64 lb, .slice a3 ts.length c3] 35)).alloc (Obj.cells #[.int .i64 0, .slice none 0 0] 32)))).1
  have HL := hid (hl _ HB.out)
  clear hat ht1 ht2 hs3 hl
  go_enter Tryd.func70, Tryd.ntmps70
  go_wp2_with fail
  refine HL.out.mono ?_
  rintro e w1 ⟨T, hT, v1, g1, rfl, h1, hg1, hb1⟩
  obtain ⟨k5, n5, a5, c5, rfl⟩ := h1.agg
  have q := HQW.out w1 hb1
  have r0 : w1.cell? ⟨w.heap.size + 1, 0, none⟩ = some (.int .i64 0) := by rw [cell_of_block q]; rfl
  have r1 : w1.cell? ⟨w.heap.size + 1, 1, none⟩ = some (.slice none 0 0) := by rw [cell_of_block q]; rfl
  have rz := fun o => frozen_of_block (o := o) q
  have rl := lt_of_block q
  have FIN := hid (MadeTO.stored (w := w) (P := w.heap.size + 1) (o := o) (T := T) hT rfl h1 hg1 (by rw [HSZ.out]; omega) (by omega) (below_trans HB.out hb1))
  generalize o.isSome = bb at *
  clear q hb1 h1 hg1 HQW HB HSZ HL hT
  go_wp2_with fail
  exact bodyPost_ret (v := .tuple #[.agg #[.int .i64 k5, .slice a5 n5 c5], .bool bb]) (by simp [results, Tryd.results70, go_sem, r0, r1]) rfl FIN.out


set_option maxRecDepth 100000 in
set_option maxHeartbeats 2000000 in
theorem tx_4 (nm : ByteArray) (num : Int) (ty fr : Ty) (lb : Int) (ts : List Tm) (o : Option Ty) (s v : Value) (fe : List Nat) (w : World) (hat : Tm.At w (.mk 4 nm num ty fr lb ts) v fe)
    (hl : ∀ W, Below w.heap.size w W → Calls Tryd.prog 58 #[s, v] W (MadeTO W o)) : Calls Tryd.prog 70 #[s, v] w (MadeTO w o) := by
  obtain ⟨k1, n1, a1, c1, k2, n2, a2, c2, a3, c3, f1, f2, f3, rfl, hnm, ht1, ht2, rfl, hs3⟩ := hat.parts
  have HB := hid (show Below w.heap.size w ((w.alloc (Obj.cells #[.int .i64 4, .string nm, .int .i64 num, .int .i64 k1, .slice a1 n1 c1, .int .i64 k2, .slice a2 n2 c2, .int .i64 lb, .slice a3 ts.length c3] 35)).alloc (Obj.cells #[.int .i64 0, .slice none 0 0] 32)) from ((Below.refl _ _).alloc (Nat.le_refl _) _).alloc (by simp) _)
  have HSZ := hid (show (((w.alloc (Obj.cells #[.int .i64 4, .string nm, .int .i64 num, .int .i64 k1, .slice a1 n1 c1, .int .i64 k2, .slice a2 n2 c2, .int .i64 lb, .slice a3 ts.length c3] 35)).alloc (Obj.cells #[.int .i64 0, .slice none 0 0] 32))).heap.size = w.heap.size + 1 + 1 by simp)
  have HQW := hid (fun (W : World) (h : Below (((w.alloc (Obj.cells #[.int .i64 4, .string nm, .int .i64 num, .int .i64 k1, .slice a1 n1 c1, .int .i64 k2, .slice a2 n2 c2, .int .i64 lb, .slice a3 ts.length c3] 35)).alloc (Obj.cells #[.int .i64 0, .slice none 0 0] 32))).heap.size ((w.alloc (Obj.cells #[.int .i64 4, .string nm, .int .i64 num, .int .i64 k1, .slice a1 n1 c1, .int .i64 k2, .slice a2 n2 c2, .int .i64 lb, .slice a3 ts.length c3] 35)).alloc (Obj.cells #[.int .i64 0, .slice none 0 0] 32)) W) => (two_out h).2)
  obtain ⟨z0, z1, z2, z3, z4, z5, z6, z7, z8⟩ := cells9 (two_out (Below.refl _ ((w.alloc (Obj.cells #[.int .i64 4, .string nm, .int .i64 num, .int .i64 k1, .slice a1 n1 c1, .int .i64 k2, .slice a2 n2 c2, .int .i64 lb, .slice a3 ts.length c3] 35)).alloc (Obj.cells #[.int .i64 0, .slice none 0 0] 32)))).1
  have HL := hid (hl _ HB.out)
  clear hat ht1 ht2 hs3 hl
  go_enter Tryd.func70, Tryd.ntmps70
  go_wp2_with fail
  refine HL.out.mono ?_
  rintro e w1 ⟨T, hT, v1, g1, rfl, h1, hg1, hb1⟩
  obtain ⟨k5, n5, a5, c5, rfl⟩ := h1.agg
  have q := HQW.out w1 hb1
  have r0 : w1.cell? ⟨w.heap.size + 1, 0, none⟩ = some (.int .i64 0) := by rw [cell_of_block q]; rfl
  have r1 : w1.cell? ⟨w.heap.size + 1, 1, none⟩ = some (.slice none 0 0) := by rw [cell_of_block q]; rfl
  have rz := fun o => frozen_of_block (o := o) q
  have rl := lt_of_block q
  have FIN := hid (MadeTO.stored (w := w) (P := w.heap.size + 1) (o := o) (T := T) hT rfl h1 hg1 (by rw [HSZ.out]; omega) (by omega) (below_trans HB.out hb1))
  generalize o.isSome = bb at *
  clear q hb1 h1 hg1 HQW HB HSZ HL hT
  go_wp2_with fail
  exact bodyPost_ret (v := .tuple #[.agg #[.int .i64 k5, .slice a5 n5 c5], .bool bb]) (by simp [results, Tryd.results70, go_sem, r0, r1]) rfl FIN.out
end Go.Proofs.YtffmpjcjmffdeaaDoor

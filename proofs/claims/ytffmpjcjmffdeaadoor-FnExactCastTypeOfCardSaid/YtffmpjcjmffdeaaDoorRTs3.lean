/- The specification's l3Type: what is wanted, and its leaves. -/
import Derived.Test.YtffmpjcjmffdeaaDoorRG13
import Derived.Test.YtffmpjcjmffdeaaDoorRTs1
namespace Go.Proofs.YtffmpjcjmffdeaaDoor
open Go.RowKit

theorem no_ty9 (w : World) : (Ty.mk 0 []).At w (.agg #[.int .i64 0, .slice none 0 0]) [] := Ty.at_mk.2 ⟨_, rfl, .inl ⟨rfl, rfl, _, _, rfl⟩⟩

set_option maxRecDepth 100000 in
set_option maxHeartbeats 2000000 in
theorem ty_2 (nm : ByteArray) (num : Int) (ty fr : Ty) (lb : Int) (ts : List Tm) (s v : Value) (fe : List Nat) (w : World) (hat : Tm.At w (.mk 2 nm num ty fr lb ts) v fe) : Calls Tryd.prog 58 #[s, v] w (MadeTO w (some (.mk 2 []))) := by
  obtain ⟨k1, n1, a1, c1, k2, n2, a2, c2, a3, c3, f1, f2, f3, rfl, hnm, ht1, ht2, rfl, hs3⟩ := hat.parts
  have HB := hid (show Below w.heap.size w ((w.alloc (Obj.cells #[.int .i64 2, .string nm, .int .i64 num, .int .i64 k1, .slice a1 n1 c1, .int .i64 k2, .slice a2 n2 c2, .int .i64 lb, .slice a3 ts.length c3] 35)).alloc (Obj.cells #[.int .i64 0, .slice none 0 0] 32)) from ((Below.refl _ _).alloc (Nat.le_refl _) _).alloc (by simp) _)
  have HSZ := hid (show ((w.alloc (Obj.cells #[.int .i64 2, .string nm, .int .i64 num, .int .i64 k1, .slice a1 n1 c1, .int .i64 k2, .slice a2 n2 c2, .int .i64 lb, .slice a3 ts.length c3] 35)).alloc (Obj.cells #[.int .i64 0, .slice none 0 0] 32)).heap.size = w.heap.size + 1 + 1 by simp)
  have HQ := hid (two_out (Below.refl _ ((w.alloc (Obj.cells #[.int .i64 2, .string nm, .int .i64 num, .int .i64 k1, .slice a1 n1 c1, .int .i64 k2, .slice a2 n2 c2, .int .i64 lb, .slice a3 ts.length c3] 35)).alloc (Obj.cells #[.int .i64 0, .slice none 0 0] 32)))).2
  obtain ⟨z0, z1, z2, z3, z4, z5, z6, z7, z8⟩ := cells9 (two_out (Below.refl _ ((w.alloc (Obj.cells #[.int .i64 2, .string nm, .int .i64 num, .int .i64 k1, .slice a1 n1 c1, .int .i64 k2, .slice a2 n2 c2, .int .i64 lb, .slice a3 ts.length c3] 35)).alloc (Obj.cells #[.int .i64 0, .slice none 0 0] 32)))).1
  have FIN := hid (fun (W : World) (h : Below ((w.alloc (Obj.cells #[.int .i64 2, .string nm, .int .i64 num, .int .i64 k1, .slice a1 n1 c1, .int .i64 k2, .slice a2 n2 c2, .int .i64 lb, .slice a3 ts.length c3] 35)).alloc (Obj.cells #[.int .i64 0, .slice none 0 0] 32)).heap.size ((w.alloc (Obj.cells #[.int .i64 2, .string nm, .int .i64 num, .int .i64 k1, .slice a1 n1 c1, .int .i64 k2, .slice a2 n2 c2, .int .i64 lb, .slice a3 ts.length c3] 35)).alloc (Obj.cells #[.int .i64 0, .slice none 0 0] 32)) W) => MadeTO.stored (P := w.heap.size + 1) (B := w.heap.size + 1 + 1) (o := some (.mk 2 [])) (fun u h => Option.some.inj h) rfl (leaf_ty W 2) (Fresh.nil _ W) (Nat.lt_succ_self _) (Nat.le_succ _) (below_trans HB.out h))
  have HQW := hid (fun (W : World) (h : Below ((w.alloc (Obj.cells #[.int .i64 2, .string nm, .int .i64 num, .int .i64 k1, .slice a1 n1 c1, .int .i64 k2, .slice a2 n2 c2, .int .i64 lb, .slice a3 ts.length c3] 35)).alloc (Obj.cells #[.int .i64 0, .slice none 0 0] 32)).heap.size ((w.alloc (Obj.cells #[.int .i64 2, .string nm, .int .i64 num, .int .i64 k1, .slice a1 n1 c1, .int .i64 k2, .slice a2 n2 c2, .int .i64 lb, .slice a3 ts.length c3] 35)).alloc (Obj.cells #[.int .i64 0, .slice none 0 0] 32)) W) => (two_out h).2)
  clear hat ht1 ht2 hs3
  go_enter Tryd.func58, Tryd.ntmps58
  go_wp2_with fail
  refine (l3Int_any _).mono ?_
  rintro e w1 ⟨rfl, hb1⟩
  have q := HQW.out w1 hb1
  have r0 : w1.cell? ⟨w.heap.size + 1, 0, none⟩ = some (.int .i64 0) := by rw [cell_of_block q]; rfl
  have r1 : w1.cell? ⟨w.heap.size + 1, 1, none⟩ = some (.slice none 0 0) := by rw [cell_of_block q]; rfl
  have rz := fun o => frozen_of_block (o := o) q
  have rl := lt_of_block q
  have FIN := hid (FIN.out w1 hb1)
  clear q hb1 HQW HB HSZ HQ
  go_wp2_with fail
  exact bodyPost_ret (v := .tuple #[.agg #[.int .i64 2, .slice none 0 0], .bool true]) (by simp [results, Tryd.results58, go_sem, r0, r1]) rfl FIN.out

set_option maxRecDepth 100000 in
set_option maxHeartbeats 2000000 in
theorem ty_3 (nm : ByteArray) (num : Int) (ty fr : Ty) (lb : Int) (ts : List Tm) (s v : Value) (fe : List Nat) (w : World) (hat : Tm.At w (.mk 3 nm num ty fr lb ts) v fe) : Calls Tryd.prog 58 #[s, v] w (MadeTO w (some (.mk 3 []))) := by
  obtain ⟨k1, n1, a1, c1, k2, n2, a2, c2, a3, c3, f1, f2, f3, rfl, hnm, ht1, ht2, rfl, hs3⟩ := hat.parts
  have HB := hid (show Below w.heap.size w ((w.alloc (Obj.cells #[.int .i64 3, .string nm, .int .i64 num, .int .i64 k1, .slice a1 n1 c1, .int .i64 k2, .slice a2 n2 c2, .int .i64 lb, .slice a3 ts.length c3] 35)).alloc (Obj.cells #[.int .i64 0, .slice none 0 0] 32)) from ((Below.refl _ _).alloc (Nat.le_refl _) _).alloc (by simp) _)
  have HSZ := hid (show ((w.alloc (Obj.cells #[.int .i64 3, .string nm, .int .i64 num, .int .i64 k1, .slice a1 n1 c1, .int .i64 k2, .slice a2 n2 c2, .int .i64 lb, .slice a3 ts.length c3] 35)).alloc (Obj.cells #[.int .i64 0, .slice none 0 0] 32)).heap.size = w.heap.size + 1 + 1 by simp)
  have HQ := hid (two_out (Below.refl _ ((w.alloc (Obj.cells #[.int .i64 3, .string nm, .int .i64 num, .int .i64 k1, .slice a1 n1 c1, .int .i64 k2, .slice a2 n2 c2, .int .i64 lb, .slice a3 ts.length c3] 35)).alloc (Obj.cells #[.int .i64 0, .slice none 0 0] 32)))).2
  obtain ⟨z0, z1, z2, z3, z4, z5, z6, z7, z8⟩ := cells9 (two_out (Below.refl _ ((w.alloc (Obj.cells #[.int .i64 3, .string nm, .int .i64 num, .int .i64 k1, .slice a1 n1 c1, .int .i64 k2, .slice a2 n2 c2, .int .i64 lb, .slice a3 ts.length c3] 35)).alloc (Obj.cells #[.int .i64 0, .slice none 0 0] 32)))).1
  have FIN := hid (fun (W : World) (h : Below ((w.alloc (Obj.cells #[.int .i64 3, .string nm, .int .i64 num, .int .i64 k1, .slice a1 n1 c1, .int .i64 k2, .slice a2 n2 c2, .int .i64 lb, .slice a3 ts.length c3] 35)).alloc (Obj.cells #[.int .i64 0, .slice none 0 0] 32)).heap.size ((w.alloc (Obj.cells #[.int .i64 3, .string nm, .int .i64 num, .int .i64 k1, .slice a1 n1 c1, .int .i64 k2, .slice a2 n2 c2, .int .i64 lb, .slice a3 ts.length c3] 35)).alloc (Obj.cells #[.int .i64 0, .slice none 0 0] 32)) W) => MadeTO.stored (P := w.heap.size + 1) (B := w.heap.size + 1 + 1) (o := some (.mk 3 [])) (fun u h => Option.some.inj h) rfl (leaf_ty W 3) (Fresh.nil _ W) (Nat.lt_succ_self _) (Nat.le_succ _) (below_trans HB.out h))
  have HQW := hid (fun (W : World) (h : Below ((w.alloc (Obj.cells #[.int .i64 3, .string nm, .int .i64 num, .int .i64 k1, .slice a1 n1 c1, .int .i64 k2, .slice a2 n2 c2, .int .i64 lb, .slice a3 ts.length c3] 35)).alloc (Obj.cells #[.int .i64 0, .slice none 0 0] 32)).heap.size ((w.alloc (Obj.cells #[.int .i64 3, .string nm, .int .i64 num, .int .i64 k1, .slice a1 n1 c1, .int .i64 k2, .slice a2 n2 c2, .int .i64 lb, .slice a3 ts.length c3] 35)).alloc (Obj.cells #[.int .i64 0, .slice none 0 0] 32)) W) => (two_out h).2)
  clear hat ht1 ht2 hs3
  go_enter Tryd.func58, Tryd.ntmps58
  go_wp2_with fail
  refine (l3Bool_any _).mono ?_
  rintro e w1 ⟨rfl, hb1⟩
  have q := HQW.out w1 hb1
  have r0 : w1.cell? ⟨w.heap.size + 1, 0, none⟩ = some (.int .i64 0) := by rw [cell_of_block q]; rfl
  have r1 : w1.cell? ⟨w.heap.size + 1, 1, none⟩ = some (.slice none 0 0) := by rw [cell_of_block q]; rfl
  have rz := fun o => frozen_of_block (o := o) q
  have rl := lt_of_block q
  have FIN := hid (FIN.out w1 hb1)
  clear q hb1 HQW HB HSZ HQ
  go_wp2_with fail
  exact bodyPost_ret (v := .tuple #[.agg #[.int .i64 3, .slice none 0 0], .bool true]) (by simp [results, Tryd.results58, go_sem, r0, r1]) rfl FIN.out

set_option maxRecDepth 100000 in
set_option maxHeartbeats 2000000 in
theorem ty_4 (nm : ByteArray) (num : Int) (ty fr : Ty) (lb : Int) (ts : List Tm) (s v : Value) (fe : List Nat) (w : World) (hat : Tm.At w (.mk 4 nm num ty fr lb ts) v fe) : Calls Tryd.prog 58 #[s, v] w (MadeTO w (some (.mk 3 []))) := by
  obtain ⟨k1, n1, a1, c1, k2, n2, a2, c2, a3, c3, f1, f2, f3, rfl, hnm, ht1, ht2, rfl, hs3⟩ := hat.parts
  have HB := hid (show Below w.heap.size w ((w.alloc (Obj.cells #[.int .i64 4, .string nm, .int .i64 num, .int .i64 k1, .slice a1 n1 c1, .int .i64 k2, .slice a2 n2 c2, .int .i64 lb, .slice a3 ts.length c3] 35)).alloc (Obj.cells #[.int .i64 0, .slice none 0 0] 32)) from ((Below.refl _ _).alloc (Nat.le_refl _) _).alloc (by simp) _)
  have HSZ := hid (show ((w.alloc (Obj.cells #[.int .i64 4, .string nm, .int .i64 num, .int .i64 k1, .slice a1 n1 c1, .int .i64 k2, .slice a2 n2 c2, .int .i64 lb, .slice a3 ts.length c3] 35)).alloc (Obj.cells #[.int .i64 0, .slice none 0 0] 32)).heap.size = w.heap.size + 1 + 1 by simp)
  have HQ := hid (two_out (Below.refl _ ((w.alloc (Obj.cells #[.int .i64 4, .string nm, .int .i64 num, .int .i64 k1, .slice a1 n1 c1, .int .i64 k2, .slice a2 n2 c2, .int .i64 lb, .slice a3 ts.length c3] 35)).alloc (Obj.cells #[.int .i64 0, .slice none 0 0] 32)))).2
  obtain ⟨z0, z1, z2, z3, z4, z5, z6, z7, z8⟩ := cells9 (two_out (Below.refl _ ((w.alloc (Obj.cells #[.int .i64 4, .string nm, .int .i64 num, .int .i64 k1, .slice a1 n1 c1, .int .i64 k2, .slice a2 n2 c2, .int .i64 lb, .slice a3 ts.length c3] 35)).alloc (Obj.cells #[.int .i64 0, .slice none 0 0] 32)))).1
  have FIN := hid (fun (W : World) (h : Below ((w.alloc (Obj.cells #[.int .i64 4, .string nm, .int .i64 num, .int .i64 k1, .slice a1 n1 c1, .int .i64 k2, .slice a2 n2 c2, .int .i64 lb, .slice a3 ts.length c3] 35)).alloc (Obj.cells #[.int .i64 0, .slice none 0 0] 32)).heap.size ((w.alloc (Obj.cells #[.int .i64 4, .string nm, .int .i64 num, .int .i64 k1, .slice a1 n1 c1, .int .i64 k2, .slice a2 n2 c2, .int .i64 lb, .slice a3 ts.length c3] 35)).alloc (Obj.cells #[.int .i64 0, .slice none 0 0] 32)) W) => MadeTO.stored (P := w.heap.size + 1) (B := w.heap.size + 1 + 1) (o := some (.mk 3 [])) (fun u h => Option.some.inj h) rfl (leaf_ty W 3) (Fresh.nil _ W) (Nat.lt_succ_self _) (Nat.le_succ _) (below_trans HB.out h))
  have HQW := hid (fun (W : World) (h : Below ((w.alloc (Obj.cells #[.int .i64 4, .string nm, .int .i64 num, .int .i64 k1, .slice a1 n1 c1, .int .i64 k2, .slice a2 n2 c2, .int .i64 lb, .slice a3 ts.length c3] 35)).alloc (Obj.cells #[.int .i64 0, .slice none 0 0] 32)).heap.size ((w.alloc (Obj.cells #[.int .i64 4, .string nm, .int .i64 num, .int .i64 k1, .slice a1 n1 c1, .int .i64 k2, .slice a2 n2 c2, .int .i64 lb, .slice a3 ts.length c3] 35)).alloc (Obj.cells #[.int .i64 0, .slice none 0 0] 32)) W) => (two_out h).2)
  clear hat ht1 ht2 hs3
  go_enter Tryd.func58, Tryd.ntmps58
  go_wp2_with fail
  refine (l3Bool_any _).mono ?_
  rintro e w1 ⟨rfl, hb1⟩
  have q := HQW.out w1 hb1
  have r0 : w1.cell? ⟨w.heap.size + 1, 0, none⟩ = some (.int .i64 0) := by rw [cell_of_block q]; rfl
  have r1 : w1.cell? ⟨w.heap.size + 1, 1, none⟩ = some (.slice none 0 0) := by rw [cell_of_block q]; rfl
  have rz := fun o => frozen_of_block (o := o) q
  have rl := lt_of_block q
  have FIN := hid (FIN.out w1 hb1)
  clear q hb1 HQW HB HSZ HQ
  go_wp2_with fail
  exact bodyPost_ret (v := .tuple #[.agg #[.int .i64 3, .slice none 0 0], .bool true]) (by simp [results, Tryd.results58, go_sem, r0, r1]) rfl FIN.out

set_option maxRecDepth 100000 in
set_option maxHeartbeats 2000000 in
theorem ty_1 (nm : ByteArray) (num : Int) (ty fr : Ty) (lb : Int) (ts : List Tm) (xs : List Bd) (s v : Value) (fs fe : List Nat) (w : World) (hs : BsAt w xs s fs) (hat : Tm.At w (.mk 1 nm num ty fr lb ts) v fe) (hn : ∀ x ∈ xs, x.ty.cnt ≤ 1048576) : Calls Tryd.prog 58 #[s, v] w (MadeTO w (look xs.reverse nm)) := by
  obtain ⟨k1, n1, a1, c1, k2, n2, a2, c2, a3, c3, f1, f2, f3, rfl, hnm, ht1, ht2, rfl, hs3⟩ := hat.parts
  have HB := hid (show Below w.heap.size w ((w.alloc (Obj.cells #[.int .i64 1, .string nm, .int .i64 num, .int .i64 k1, .slice a1 n1 c1, .int .i64 k2, .slice a2 n2 c2, .int .i64 lb, .slice a3 ts.length c3] 35)).alloc (Obj.cells #[.int .i64 0, .slice none 0 0] 32)) from ((Below.refl _ _).alloc (Nat.le_refl _) _).alloc (by simp) _)
  have HSZ := hid (show ((w.alloc (Obj.cells #[.int .i64 1, .string nm, .int .i64 num, .int .i64 k1, .slice a1 n1 c1, .int .i64 k2, .slice a2 n2 c2, .int .i64 lb, .slice a3 ts.length c3] 35)).alloc (Obj.cells #[.int .i64 0, .slice none 0 0] 32)).heap.size = w.heap.size + 1 + 1 by simp)
  have HQ := hid (two_out (Below.refl _ ((w.alloc (Obj.cells #[.int .i64 1, .string nm, .int .i64 num, .int .i64 k1, .slice a1 n1 c1, .int .i64 k2, .slice a2 n2 c2, .int .i64 lb, .slice a3 ts.length c3] 35)).alloc (Obj.cells #[.int .i64 0, .slice none 0 0] 32)))).2
  obtain ⟨z0, z1, z2, z3, z4, z5, z6, z7, z8⟩ := cells9 (two_out (Below.refl _ ((w.alloc (Obj.cells #[.int .i64 1, .string nm, .int .i64 num, .int .i64 k1, .slice a1 n1 c1, .int .i64 k2, .slice a2 n2 c2, .int .i64 lb, .slice a3 ts.length c3] 35)).alloc (Obj.cells #[.int .i64 0, .slice none 0 0] 32)))).1
  have HL := hid (l3Look_any xs s fs nm ((w.alloc (Obj.cells #[.int .i64 1, .string nm, .int .i64 num, .int .i64 k1, .slice a1 n1 c1, .int .i64 k2, .slice a2 n2 c2, .int .i64 lb, .slice a3 ts.length c3] 35)).alloc (Obj.cells #[.int .i64 0, .slice none 0 0] 32)) (hs.below HB.out) hn)
  have FIN := hid (fun (W : World) (T : Ty) (b : Bool) (k : Int) (n c : Nat) (a : Option Addr) (f : List Nat) (ho : ∀ u, look xs.reverse nm = some u → T = u) (hob : (look xs.reverse nm).isSome = b) (h1 : T.At W (.agg #[.int .i64 k, .slice a n c]) f) (h2 : Fresh ((w.alloc (Obj.cells #[.int .i64 1, .string nm, .int .i64 num, .int .i64 k1, .slice a1 n1 c1, .int .i64 k2, .slice a2 n2 c2, .int .i64 lb, .slice a3 ts.length c3] 35)).alloc (Obj.cells #[.int .i64 0, .slice none 0 0] 32)).heap.size W f) (h : Below ((w.alloc (Obj.cells #[.int .i64 1, .string nm, .int .i64 num, .int .i64 k1, .slice a1 n1 c1, .int .i64 k2, .slice a2 n2 c2, .int .i64 lb, .slice a3 ts.length c3] 35)).alloc (Obj.cells #[.int .i64 0, .slice none 0 0] 32)).heap.size ((w.alloc (Obj.cells #[.int .i64 1, .string nm, .int .i64 num, .int .i64 k1, .slice a1 n1 c1, .int .i64 k2, .slice a2 n2 c2, .int .i64 lb, .slice a3 ts.length c3] 35)).alloc (Obj.cells #[.int .i64 0, .slice none 0 0] 32)) W) => MadeTO.stored (P := w.heap.size + 1) (B := ((w.alloc (Obj.cells #[.int .i64 1, .string nm, .int .i64 num, .int .i64 k1, .slice a1 n1 c1, .int .i64 k2, .slice a2 n2 c2, .int .i64 lb, .slice a3 ts.length c3] 35)).alloc (Obj.cells #[.int .i64 0, .slice none 0 0] 32)).heap.size) ho hob h1 h2 (by rw [HSZ.out]; omega) (Nat.le_succ _) (below_trans HB.out h))
  have HQW := hid (fun (W : World) (h : Below ((w.alloc (Obj.cells #[.int .i64 1, .string nm, .int .i64 num, .int .i64 k1, .slice a1 n1 c1, .int .i64 k2, .slice a2 n2 c2, .int .i64 lb, .slice a3 ts.length c3] 35)).alloc (Obj.cells #[.int .i64 0, .slice none 0 0] 32)).heap.size ((w.alloc (Obj.cells #[.int .i64 1, .string nm, .int .i64 num, .int .i64 k1, .slice a1 n1 c1, .int .i64 k2, .slice a2 n2 c2, .int .i64 lb, .slice a3 ts.length c3] 35)).alloc (Obj.cells #[.int .i64 0, .slice none 0 0] 32)) W) => (two_out h).2)
  obtain ⟨sa, scap, rfl, -⟩ := hs.open
  have HO := hid (show ∀ u, look xs.reverse nm = some u → (look xs.reverse nm).getD (.mk 0 []) = u from fun u h => by rw [h]; rfl)
  generalize look xs.reverse nm = oo at *
  clear hs hat ht1 ht2 hs3 hn
  go_enter Tryd.func58, Tryd.ntmps58
  go_wp2_with fail
  refine HL.out.mono ?_
  rintro e w1 ⟨vm, f, rfl, hatm, hfm, hb1⟩
  obtain ⟨k, n, a, c, rfl⟩ := hatm.agg
  have q := HQW.out w1 hb1
  have r0 : w1.cell? ⟨w.heap.size + 1, 0, none⟩ = some (.int .i64 0) := by rw [cell_of_block q]; rfl
  have r1 : w1.cell? ⟨w.heap.size + 1, 1, none⟩ = some (.slice none 0 0) := by rw [cell_of_block q]; rfl
  have rz := fun o => frozen_of_block (o := o) q
  have rl := lt_of_block q
  have FIN := hid (FIN.out w1 _ _ _ _ _ _ _ HO.out rfl hatm hfm hb1)
  clear q hb1 HQW HB HSZ HQ HL hatm hfm
  go_wp2_with fail
  exact bodyPost_ret (v := .tuple #[.agg #[.int .i64 k, .slice a n c], .bool oo.isSome]) (by simp [results, Tryd.results58, go_sem, r0, r1]) rfl FIN.out
end Go.Proofs.YtffmpjcjmffdeaaDoor

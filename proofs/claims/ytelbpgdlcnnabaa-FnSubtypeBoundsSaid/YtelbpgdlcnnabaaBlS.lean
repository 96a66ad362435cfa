/- The specification's relations of chapter 8. -/
import Derived.Test.YtelbpgdlcnnabaaBl0
import Derived.Test.YtelbpgdlcnnabaaReg
namespace Go.Proofs.Ytelbpgdlcnnabaa
open Go.RowKit

def PoC (d : Nat) : Prop := ∀ (a b : Ty) (v1 v2 : Value) (f1 f2 : List Nat) (w : World), shp d a = true → shp d b = true → a.At w v1 f1 → b.At w v2 f2 →
  Calls Try.prog 94 #[v1, v2] w (fun e w' => e = .returned (.bool (sub d 1 a b)) ∧ Below w.heap.size w w')
def NeC (d : Nat) : Prop := ∀ (a b : Ty) (v1 v2 : Value) (f1 f2 : List Nat) (w : World), shp d a = true → shp d b = true → a.At w v1 f1 → b.At w v2 f2 →
  Calls Try.prog 95 #[v1, v2] w (fun e w' => e = .returned (.bool (sub d (-1) a b)) ∧ Below w.heap.size w w')
def SuC (d : Nat) : Prop := ∀ (a b : Ty) (v1 v2 : Value) (f1 f2 : List Nat) (w : World), shp d a = true → shp d b = true → a.At w v1 f1 → b.At w v2 f2 →
  Calls Try.prog 93 #[v1, v2] w (fun e w' => e = .returned (.bool (sub d 0 a b)) ∧ Below w.heap.size w w')

set_option maxRecDepth 100000 in
set_option maxHeartbeats 2000000 in
theorem pos_leaf (k : Int) (hk : k = 2 ∨ k = 3) (v1 v2 : Value) (f1 f2 : List Nat) (w : World) (h1 : (Ty.mk k []).At w v1 f1) (h2 : (Ty.mk k []).At w v2 f2) :
    Calls Try.prog 94 #[v1, v2] w (fun e w' => e = .returned (.bool (true)) ∧ Below w.heap.size w w') := by
  obtain ⟨s1, rfl, hs1⟩ := Ty.at_mk.1 h1
  obtain ⟨s2, rfl, hs2⟩ := Ty.at_mk.1 h2
  obtain ⟨a1, c1, rfl⟩ := hs1.none8
  obtain ⟨a2, c2, rfl⟩ := hs2.none8
  clear h1 h2 hs1 hs2
  rcases hk with rfl | rfl
  · have hb0 : Below w.heap.size w ((w.alloc (Obj.cells #[.int .i64 2, .slice a1 0 c1] 25)).alloc (Obj.cells #[.int .i64 2, .slice a2 0 c2] 25)) := ((Below.refl _ _).alloc (Nat.le_refl _) _).alloc (by simp) _
    obtain ⟨x0, x1, x2, x3⟩ := box_cells2 (Below.refl (((w.alloc (Obj.cells #[.int .i64 2, .slice a1 0 c1] 25)).alloc (Obj.cells #[.int .i64 2, .slice a2 0 c2] 25))).heap.size ((w.alloc (Obj.cells #[.int .i64 2, .slice a1 0 c1] 25)).alloc (Obj.cells #[.int .i64 2, .slice a2 0 c2] 25)))
    go_enter Try.func94, Try.ntmps94
    go_wp2_with fail
    refine wp_region_held_drew (S := (fun w' => Below (((w.alloc (Obj.cells #[.int .i64 2, .slice a1 0 c1] 25)).alloc (Obj.cells #[.int .i64 2, .slice a2 0 c2] 25))).heap.size ((w.alloc (Obj.cells #[.int .i64 2, .slice a1 0 c1] 25)).alloc (Obj.cells #[.int .i64 2, .slice a2 0 c2] 25)) w' ∧ w'.cell? ⟨w.heap.size, 0, none⟩ = some (.int .i64 2) ∧ w'.cell? ⟨w.heap.size, 1, none⟩ = some (.slice a1 0 c1) ∧ w'.cell? ⟨w.heap.size + 1, 0, none⟩ = some (.int .i64 2) ∧ w'.cell? ⟨w.heap.size + 1, 1, none⟩ = some (.slice a2 0 c2))) (by kernel_rfl) ?_ (fun hS0 => ?_)
    · (refine (fun hB => ⟨hB, cell_keep x0 hB, cell_keep x1 hB, cell_keep x2 hB, cell_keep x3 hB⟩ : Below (((w.alloc (Obj.cells #[.int .i64 2, .slice a1 0 c1] 25)).alloc (Obj.cells #[.int .i64 2, .slice a2 0 c2] 25))).heap.size ((w.alloc (Obj.cells #[.int .i64 2, .slice a1 0 c1] 25)).alloc (Obj.cells #[.int .i64 2, .slice a2 0 c2] 25)) _ → _) ?_; exact below_drew _)
    refine regTake (i := 0) (v := ?vn1_0) rfl (by kernel_rfl) (by kernel_rfl) (by kernel_rfl) (fun _ _ _ h => h) (Or.inl ⟨by rfl, ?hyn1_0⟩) (by assumption) ?_
    case hyn1_0 => (intro w hSw; (try dsimp only at hSw); go_simp; (try with_reducible rfl))
    try simp only [Act.put, List.setIfInBounds_toArray, List.set_cons_zero, List.set_cons_succ]
    refine regTake (i := 1) (v := ?vn1_1) rfl (by kernel_rfl) (by kernel_rfl) (by kernel_rfl) (fun _ _ _ h => h) (Or.inl ⟨by rfl, ?hyn1_1⟩) (by assumption) ?_
    case hyn1_1 => (intro w hSw; (try dsimp only at hSw); go_simp; (try with_reducible rfl))
    try simp only [Act.put, List.setIfInBounds_toArray, List.set_cons_zero, List.set_cons_succ]
    refine regTake (i := 2) (v := ?vn1_2) rfl (by kernel_rfl) (by kernel_rfl) (by kernel_rfl) (fun _ _ _ h => h) (Or.inl ⟨by rfl, ?hyn1_2⟩) (by assumption) ?_
    case hyn1_2 => (intro w hSw; (try dsimp only at hSw); go_simp; (try with_reducible rfl))
    try simp only [Act.put, List.setIfInBounds_toArray, List.set_cons_zero, List.set_cons_succ]
    refine regTake (i := 3) (v := ?vn1_3) rfl (by kernel_rfl) (by kernel_rfl) (by kernel_rfl) (fun _ _ _ h => h) (Or.inl ⟨by rfl, ?hyn1_3⟩) (by assumption) ?_
    case hyn1_3 => (intro w hSw; (try dsimp only at hSw); go_simp; (try with_reducible rfl))
    try simp only [Act.put, List.setIfInBounds_toArray, List.set_cons_zero, List.set_cons_succ]
    refine regTake (i := 4) (v := undef) rfl (by kernel_rfl) (by kernel_rfl) (by kernel_rfl) (fun _ _ _ h => h) (Or.inr ⟨by rfl, rfl⟩) (by assumption) ?_
    try simp only [Act.put, List.setIfInBounds_toArray, List.set_cons_zero, List.set_cons_succ]
    refine regTake (i := 5) (v := undef) rfl (by kernel_rfl) (by kernel_rfl) (by kernel_rfl) (fun _ _ _ h => h) (Or.inr ⟨by rfl, rfl⟩) (by assumption) ?_
    try simp only [Act.put, List.setIfInBounds_toArray, List.set_cons_zero, List.set_cons_succ]
    refine regTake (i := 6) (v := undef) rfl (by kernel_rfl) (by kernel_rfl) (by kernel_rfl) (fun _ _ _ h => h) (Or.inr ⟨by rfl, rfl⟩) (by assumption) ?_
    try simp only [Act.put, List.setIfInBounds_toArray, List.set_cons_zero, List.set_cons_succ]
    refine regTake (i := 7) (v := undef) rfl (by kernel_rfl) (by kernel_rfl) (by kernel_rfl) (fun _ _ _ h => h) (Or.inr ⟨by rfl, rfl⟩) (by assumption) ?_
    try simp only [Act.put, List.setIfInBounds_toArray, List.set_cons_zero, List.set_cons_succ]
    refine regTake (i := 8) (v := undef) rfl (by kernel_rfl) (by kernel_rfl) (by kernel_rfl) (fun _ _ _ h => h) (Or.inr ⟨by rfl, rfl⟩) (by assumption) ?_
    try simp only [Act.put, List.setIfInBounds_toArray, List.set_cons_zero, List.set_cons_succ]
    refine regTake (i := 9) (v := undef) rfl (by kernel_rfl) (by kernel_rfl) (by kernel_rfl) (fun _ _ _ h => h) (Or.inr ⟨by rfl, rfl⟩) (by assumption) ?_
    try simp only [Act.put, List.setIfInBounds_toArray, List.set_cons_zero, List.set_cons_succ]
    refine regTake (i := 10) (v := undef) rfl (by kernel_rfl) (by kernel_rfl) (by kernel_rfl) (fun _ _ _ h => h) (Or.inr ⟨by rfl, rfl⟩) (by assumption) ?_
    try simp only [Act.put, List.setIfInBounds_toArray, List.set_cons_zero, List.set_cons_succ]
    refine regTake (i := 11) (v := undef) rfl (by kernel_rfl) (by kernel_rfl) (by kernel_rfl) (fun _ _ _ h => h) (Or.inr ⟨by rfl, rfl⟩) (by assumption) ?_
    try simp only [Act.put, List.setIfInBounds_toArray, List.set_cons_zero, List.set_cons_succ]
    refine regTake (i := 12) (v := undef) rfl (by kernel_rfl) (by kernel_rfl) (by kernel_rfl) (fun _ _ _ h => h) (Or.inr ⟨by rfl, rfl⟩) (by assumption) ?_
    try simp only [Act.put, List.setIfInBounds_toArray, List.set_cons_zero, List.set_cons_succ]
    refine regTake (i := 13) (v := undef) rfl (by kernel_rfl) (by kernel_rfl) (by kernel_rfl) (fun _ _ _ h => h) (Or.inr ⟨by rfl, rfl⟩) (by assumption) ?_
    try simp only [Act.put, List.setIfInBounds_toArray, List.set_cons_zero, List.set_cons_succ]
    refine regTake (i := 14) (v := undef) rfl (by kernel_rfl) (by kernel_rfl) (by kernel_rfl) (fun _ _ _ h => h) (Or.inr ⟨by rfl, rfl⟩) (by assumption) ?_
    try simp only [Act.put, List.setIfInBounds_toArray, List.set_cons_zero, List.set_cons_succ]
    refine regTake (i := 15) (v := undef) rfl (by kernel_rfl) (by kernel_rfl) (by kernel_rfl) (fun _ _ _ h => h) (Or.inr ⟨by rfl, rfl⟩) (by assumption) ?_
    try simp only [Act.put, List.setIfInBounds_toArray, List.set_cons_zero, List.set_cons_succ]
    refine regTake (i := 16) (v := undef) rfl (by kernel_rfl) (by kernel_rfl) (by kernel_rfl) (fun _ _ _ h => h) (Or.inr ⟨by rfl, rfl⟩) (by assumption) ?_
    try simp only [Act.put, List.setIfInBounds_toArray, List.set_cons_zero, List.set_cons_succ]
    refine regTake (i := 17) (v := undef) rfl (by kernel_rfl) (by kernel_rfl) (by kernel_rfl) (fun _ _ _ h => h) (Or.inr ⟨by rfl, rfl⟩) (by assumption) ?_
    try simp only [Act.put, List.setIfInBounds_toArray, List.set_cons_zero, List.set_cons_succ]
    refine regTake (i := 18) (v := undef) rfl (by kernel_rfl) (by kernel_rfl) (by kernel_rfl) (fun _ _ _ h => h) (Or.inr ⟨by rfl, rfl⟩) (by assumption) ?_
    try simp only [Act.put, List.setIfInBounds_toArray, List.set_cons_zero, List.set_cons_succ]
    refine regTake (i := 19) (v := undef) rfl (by kernel_rfl) (by kernel_rfl) (by kernel_rfl) (fun _ _ _ h => h) (Or.inr ⟨by rfl, rfl⟩) (by assumption) ?_
    try simp only [Act.put, List.setIfInBounds_toArray, List.set_cons_zero, List.set_cons_succ]
    refine regTake (i := 20) (v := undef) rfl (by kernel_rfl) (by kernel_rfl) (by kernel_rfl) (fun _ _ _ h => h) (Or.inr ⟨by rfl, rfl⟩) (by assumption) ?_
    try simp only [Act.put, List.setIfInBounds_toArray, List.set_cons_zero, List.set_cons_succ]
    refine regTake (i := 21) (v := undef) rfl (by kernel_rfl) (by kernel_rfl) (by kernel_rfl) (fun _ _ _ h => h) (Or.inr ⟨by rfl, rfl⟩) (by assumption) ?_
    try simp only [Act.put, List.setIfInBounds_toArray, List.set_cons_zero, List.set_cons_succ]
    refine regTake (i := 22) (v := undef) rfl (by kernel_rfl) (by kernel_rfl) (by kernel_rfl) (fun _ _ _ h => h) (Or.inr ⟨by rfl, rfl⟩) (by assumption) ?_
    try simp only [Act.put, List.setIfInBounds_toArray, List.set_cons_zero, List.set_cons_succ]
    refine regTake (i := 23) (v := undef) rfl (by kernel_rfl) (by kernel_rfl) (by kernel_rfl) (fun _ _ _ h => h) (Or.inr ⟨by rfl, rfl⟩) (by assumption) ?_
    try simp only [Act.put, List.setIfInBounds_toArray, List.set_cons_zero, List.set_cons_succ]
    refine regTake (i := 24) (v := .bool true) rfl (by kernel_rfl) (by kernel_rfl) (by kernel_rfl) (fun _ _ _ h => h) (Or.inl ⟨by rfl, ?hyn1_24⟩) (by assumption) ?_
    case hyn1_24 => (intro w hSw; (try dsimp only at hSw); go_simp; (try with_reducible rfl))
    try simp only [Act.put, List.setIfInBounds_toArray, List.set_cons_zero, List.set_cons_succ]
    refine regTake (i := 25) (v := ?vn1_25) rfl (by kernel_rfl) (by kernel_rfl) (by kernel_rfl) (fun _ _ _ h => h) (Or.inl ⟨by rfl, ?hyn1_25⟩) (by assumption) ?_
    case hyn1_25 => (intro w hSw; (try dsimp only at hSw); go_simp; (try with_reducible rfl))
    try simp only [Act.put, List.setIfInBounds_toArray, List.set_cons_zero, List.set_cons_succ]
    refine wpAnyH_done (by kernel_rfl) ?_ _
    go_wp2_with fail
    go_ret
    exact ⟨ret_b rfl, below_trans hb0 (below_drew _)⟩
  · have hb0 : Below w.heap.size w ((w.alloc (Obj.cells #[.int .i64 3, .slice a1 0 c1] 25)).alloc (Obj.cells #[.int .i64 3, .slice a2 0 c2] 25)) := ((Below.refl _ _).alloc (Nat.le_refl _) _).alloc (by simp) _
    obtain ⟨x0, x1, x2, x3⟩ := box_cells2 (Below.refl (((w.alloc (Obj.cells #[.int .i64 3, .slice a1 0 c1] 25)).alloc (Obj.cells #[.int .i64 3, .slice a2 0 c2] 25))).heap.size ((w.alloc (Obj.cells #[.int .i64 3, .slice a1 0 c1] 25)).alloc (Obj.cells #[.int .i64 3, .slice a2 0 c2] 25)))
    go_enter Try.func94, Try.ntmps94
    go_wp2_with fail
    refine wp_region_held_drew (S := (fun w' => Below (((w.alloc (Obj.cells #[.int .i64 3, .slice a1 0 c1] 25)).alloc (Obj.cells #[.int .i64 3, .slice a2 0 c2] 25))).heap.size ((w.alloc (Obj.cells #[.int .i64 3, .slice a1 0 c1] 25)).alloc (Obj.cells #[.int .i64 3, .slice a2 0 c2] 25)) w' ∧ w'.cell? ⟨w.heap.size, 0, none⟩ = some (.int .i64 3) ∧ w'.cell? ⟨w.heap.size, 1, none⟩ = some (.slice a1 0 c1) ∧ w'.cell? ⟨w.heap.size + 1, 0, none⟩ = some (.int .i64 3) ∧ w'.cell? ⟨w.heap.size + 1, 1, none⟩ = some (.slice a2 0 c2))) (by kernel_rfl) ?_ (fun hS0 => ?_)
    · (refine (fun hB => ⟨hB, cell_keep x0 hB, cell_keep x1 hB, cell_keep x2 hB, cell_keep x3 hB⟩ : Below (((w.alloc (Obj.cells #[.int .i64 3, .slice a1 0 c1] 25)).alloc (Obj.cells #[.int .i64 3, .slice a2 0 c2] 25))).heap.size ((w.alloc (Obj.cells #[.int .i64 3, .slice a1 0 c1] 25)).alloc (Obj.cells #[.int .i64 3, .slice a2 0 c2] 25)) _ → _) ?_; exact below_drew _)
    refine regTake (i := 0) (v := ?vn2_0) rfl (by kernel_rfl) (by kernel_rfl) (by kernel_rfl) (fun _ _ _ h => h) (Or.inl ⟨by rfl, ?hyn2_0⟩) (by assumption) ?_
    case hyn2_0 => (intro w hSw; (try dsimp only at hSw); go_simp; (try with_reducible rfl))
    try simp only [Act.put, List.setIfInBounds_toArray, List.set_cons_zero, List.set_cons_succ]
    refine regTake (i := 1) (v := ?vn2_1) rfl (by kernel_rfl) (by kernel_rfl) (by kernel_rfl) (fun _ _ _ h => h) (Or.inl ⟨by rfl, ?hyn2_1⟩) (by assumption) ?_
    case hyn2_1 => (intro w hSw; (try dsimp only at hSw); go_simp; (try with_reducible rfl))
    try simp only [Act.put, List.setIfInBounds_toArray, List.set_cons_zero, List.set_cons_succ]
    refine regTake (i := 2) (v := ?vn2_2) rfl (by kernel_rfl) (by kernel_rfl) (by kernel_rfl) (fun _ _ _ h => h) (Or.inl ⟨by rfl, ?hyn2_2⟩) (by assumption) ?_
    case hyn2_2 => (intro w hSw; (try dsimp only at hSw); go_simp; (try with_reducible rfl))
    try simp only [Act.put, List.setIfInBounds_toArray, List.set_cons_zero, List.set_cons_succ]
    refine regTake (i := 3) (v := ?vn2_3) rfl (by kernel_rfl) (by kernel_rfl) (by kernel_rfl) (fun _ _ _ h => h) (Or.inl ⟨by rfl, ?hyn2_3⟩) (by assumption) ?_
    case hyn2_3 => (intro w hSw; (try dsimp only at hSw); go_simp; (try with_reducible rfl))
    try simp only [Act.put, List.setIfInBounds_toArray, List.set_cons_zero, List.set_cons_succ]
    refine regTake (i := 4) (v := undef) rfl (by kernel_rfl) (by kernel_rfl) (by kernel_rfl) (fun _ _ _ h => h) (Or.inr ⟨by rfl, rfl⟩) (by assumption) ?_
    try simp only [Act.put, List.setIfInBounds_toArray, List.set_cons_zero, List.set_cons_succ]
    refine regTake (i := 5) (v := undef) rfl (by kernel_rfl) (by kernel_rfl) (by kernel_rfl) (fun _ _ _ h => h) (Or.inr ⟨by rfl, rfl⟩) (by assumption) ?_
    try simp only [Act.put, List.setIfInBounds_toArray, List.set_cons_zero, List.set_cons_succ]
    refine regTake (i := 6) (v := undef) rfl (by kernel_rfl) (by kernel_rfl) (by kernel_rfl) (fun _ _ _ h => h) (Or.inr ⟨by rfl, rfl⟩) (by assumption) ?_
    try simp only [Act.put, List.setIfInBounds_toArray, List.set_cons_zero, List.set_cons_succ]
    refine regTake (i := 7) (v := undef) rfl (by kernel_rfl) (by kernel_rfl) (by kernel_rfl) (fun _ _ _ h => h) (Or.inr ⟨by rfl, rfl⟩) (by assumption) ?_
    try simp only [Act.put, List.setIfInBounds_toArray, List.set_cons_zero, List.set_cons_succ]
    refine regTake (i := 8) (v := undef) rfl (by kernel_rfl) (by kernel_rfl) (by kernel_rfl) (fun _ _ _ h => h) (Or.inr ⟨by rfl, rfl⟩) (by assumption) ?_
    try simp only [Act.put, List.setIfInBounds_toArray, List.set_cons_zero, List.set_cons_succ]
    refine regTake (i := 9) (v := undef) rfl (by kernel_rfl) (by kernel_rfl) (by kernel_rfl) (fun _ _ _ h => h) (Or.inr ⟨by rfl, rfl⟩) (by assumption) ?_
    try simp only [Act.put, List.setIfInBounds_toArray, List.set_cons_zero, List.set_cons_succ]
    refine regTake (i := 10) (v := undef) rfl (by kernel_rfl) (by kernel_rfl) (by kernel_rfl) (fun _ _ _ h => h) (Or.inr ⟨by rfl, rfl⟩) (by assumption) ?_
    try simp only [Act.put, List.setIfInBounds_toArray, List.set_cons_zero, List.set_cons_succ]
    refine regTake (i := 11) (v := undef) rfl (by kernel_rfl) (by kernel_rfl) (by kernel_rfl) (fun _ _ _ h => h) (Or.inr ⟨by rfl, rfl⟩) (by assumption) ?_
    try simp only [Act.put, List.setIfInBounds_toArray, List.set_cons_zero, List.set_cons_succ]
    refine regTake (i := 12) (v := undef) rfl (by kernel_rfl) (by kernel_rfl) (by kernel_rfl) (fun _ _ _ h => h) (Or.inr ⟨by rfl, rfl⟩) (by assumption) ?_
    try simp only [Act.put, List.setIfInBounds_toArray, List.set_cons_zero, List.set_cons_succ]
    refine regTake (i := 13) (v := undef) rfl (by kernel_rfl) (by kernel_rfl) (by kernel_rfl) (fun _ _ _ h => h) (Or.inr ⟨by rfl, rfl⟩) (by assumption) ?_
    try simp only [Act.put, List.setIfInBounds_toArray, List.set_cons_zero, List.set_cons_succ]
    refine regTake (i := 14) (v := undef) rfl (by kernel_rfl) (by kernel_rfl) (by kernel_rfl) (fun _ _ _ h => h) (Or.inr ⟨by rfl, rfl⟩) (by assumption) ?_
    try simp only [Act.put, List.setIfInBounds_toArray, List.set_cons_zero, List.set_cons_succ]
    refine regTake (i := 15) (v := undef) rfl (by kernel_rfl) (by kernel_rfl) (by kernel_rfl) (fun _ _ _ h => h) (Or.inr ⟨by rfl, rfl⟩) (by assumption) ?_
    try simp only [Act.put, List.setIfInBounds_toArray, List.set_cons_zero, List.set_cons_succ]
    refine regTake (i := 16) (v := undef) rfl (by kernel_rfl) (by kernel_rfl) (by kernel_rfl) (fun _ _ _ h => h) (Or.inr ⟨by rfl, rfl⟩) (by assumption) ?_
    try simp only [Act.put, List.setIfInBounds_toArray, List.set_cons_zero, List.set_cons_succ]
    refine regTake (i := 17) (v := undef) rfl (by kernel_rfl) (by kernel_rfl) (by kernel_rfl) (fun _ _ _ h => h) (Or.inr ⟨by rfl, rfl⟩) (by assumption) ?_
    try simp only [Act.put, List.setIfInBounds_toArray, List.set_cons_zero, List.set_cons_succ]
    refine regTake (i := 18) (v := undef) rfl (by kernel_rfl) (by kernel_rfl) (by kernel_rfl) (fun _ _ _ h => h) (Or.inr ⟨by rfl, rfl⟩) (by assumption) ?_
    try simp only [Act.put, List.setIfInBounds_toArray, List.set_cons_zero, List.set_cons_succ]
    refine regTake (i := 19) (v := undef) rfl (by kernel_rfl) (by kernel_rfl) (by kernel_rfl) (fun _ _ _ h => h) (Or.inr ⟨by rfl, rfl⟩) (by assumption) ?_
    try simp only [Act.put, List.setIfInBounds_toArray, List.set_cons_zero, List.set_cons_succ]
    refine regTake (i := 20) (v := undef) rfl (by kernel_rfl) (by kernel_rfl) (by kernel_rfl) (fun _ _ _ h => h) (Or.inr ⟨by rfl, rfl⟩) (by assumption) ?_
    try simp only [Act.put, List.setIfInBounds_toArray, List.set_cons_zero, List.set_cons_succ]
    refine regTake (i := 21) (v := undef) rfl (by kernel_rfl) (by kernel_rfl) (by kernel_rfl) (fun _ _ _ h => h) (Or.inr ⟨by rfl, rfl⟩) (by assumption) ?_
    try simp only [Act.put, List.setIfInBounds_toArray, List.set_cons_zero, List.set_cons_succ]
    refine regTake (i := 22) (v := undef) rfl (by kernel_rfl) (by kernel_rfl) (by kernel_rfl) (fun _ _ _ h => h) (Or.inr ⟨by rfl, rfl⟩) (by assumption) ?_
    try simp only [Act.put, List.setIfInBounds_toArray, List.set_cons_zero, List.set_cons_succ]
    refine regTake (i := 23) (v := undef) rfl (by kernel_rfl) (by kernel_rfl) (by kernel_rfl) (fun _ _ _ h => h) (Or.inr ⟨by rfl, rfl⟩) (by assumption) ?_
    try simp only [Act.put, List.setIfInBounds_toArray, List.set_cons_zero, List.set_cons_succ]
    refine regTake (i := 24) (v := .bool true) rfl (by kernel_rfl) (by kernel_rfl) (by kernel_rfl) (fun _ _ _ h => h) (Or.inl ⟨by rfl, ?hyn2_24⟩) (by assumption) ?_
    case hyn2_24 => (intro w hSw; (try dsimp only at hSw); go_simp; (try with_reducible rfl))
    try simp only [Act.put, List.setIfInBounds_toArray, List.set_cons_zero, List.set_cons_succ]
    refine regTake (i := 25) (v := ?vn2_25) rfl (by kernel_rfl) (by kernel_rfl) (by kernel_rfl) (fun _ _ _ h => h) (Or.inl ⟨by rfl, ?hyn2_25⟩) (by assumption) ?_
    case hyn2_25 => (intro w hSw; (try dsimp only at hSw); go_simp; (try with_reducible rfl))
    try simp only [Act.put, List.setIfInBounds_toArray, List.set_cons_zero, List.set_cons_succ]
    refine wpAnyH_done (by kernel_rfl) ?_ _
    go_wp2_with fail
    go_ret
    exact ⟨ret_b rfl, below_trans hb0 (below_drew _)⟩

set_option maxRecDepth 100000 in
set_option maxHeartbeats 4000000 in
theorem pos_two4 (d : Nat) (ih : PoC d) (ihn : NeC d) (x y x' y' : Ty) (v1 v2 : Value) (f1 f2 : List Nat) (w : World) (hx : shp d x = true) (hy : shp d y = true) (hx' : shp d x' = true) (hy' : shp d y' = true) (h1 : (Ty.mk 4 [x, y]).At w v1 f1) (h2 : (Ty.mk 4 [x', y']).At w v2 f2) :
    Calls Try.prog 94 #[v1, v2] w (fun e w' => e = .returned (.bool (sub d (-1) x' x && sub d 1 y y')) ∧ Below w.heap.size w w') := by
  obtain ⟨s1, rfl, hs1⟩ := Ty.at_mk.1 h1
  obtain ⟨s2, rfl, hs2⟩ := Ty.at_mk.1 h2
  obtain ⟨bf, of, cf, k1, n1, a1, c1, k2, n2, a2, c2, g1, g2, rfl, hbf, d0, d1, d2, d3, hX1, hX2, _, hcf⟩ := hs1.two
  obtain ⟨bt, ot, ct, k3, n3, a3, c3, k4, n4, a4, c4, g3, g4, rfl, hbt, e0, e1, e2, e3, hY1, hY2, _, hct⟩ := hs2.two
  have hb0 : Below w.heap.size w ((w.alloc (Obj.cells #[.int .i64 4, .slice (some ⟨bf, of, none⟩) 2 cf] 25)).alloc (Obj.cells #[.int .i64 4, .slice (some ⟨bt, ot, none⟩) 2 ct] 25)) := ((Below.refl _ _).alloc (Nat.le_refl _) _).alloc (by simp) _
  obtain ⟨x0, x1, x2, x3⟩ := box_cells2 (Below.refl (((w.alloc (Obj.cells #[.int .i64 4, .slice (some ⟨bf, of, none⟩) 2 cf] 25)).alloc (Obj.cells #[.int .i64 4, .slice (some ⟨bt, ot, none⟩) 2 ct] 25))).heap.size ((w.alloc (Obj.cells #[.int .i64 4, .slice (some ⟨bf, of, none⟩) 2 cf] 25)).alloc (Obj.cells #[.int .i64 4, .slice (some ⟨bt, ot, none⟩) 2 ct] 25)))
  replace d0 := cell_keep d0 hb0
  replace d1 := cell_keep d1 hb0
  replace d2 := cell_keep d2 hb0
  replace d3 := cell_keep d3 hb0
  replace e0 := cell_keep e0 hb0
  replace e1 := cell_keep e1 hb0
  replace e2 := cell_keep e2 hb0
  replace e3 := cell_keep e3 hb0
  have H := hid (And.intro (hX1.below hb0) (And.intro (hX2.below hb0) (And.intro (hY1.below hb0) (hY2.below hb0))))
  have HP := hid (And.intro hx (And.intro hy (And.intro hx' hy')))
  have HIH := hid ih
  have HIN := hid ihn
  clear ihn
  clear ih h1 h2 hs1 hs2 hX1 hX2 hY1 hY2 hx hy hx' hy'
  generalize hA : sub d (-1) x' x = A at *
  generalize hB : sub d 1 y y' = B at *
  have HA := hid hA
  have HB := hid hB
  clear hA hB
  cases A
  · go_enter Try.func94, Try.ntmps94
    go_wp2_with fail
    refine wp_region_held_drew (S := (fun w' => Below (((w.alloc (Obj.cells #[.int .i64 4, .slice (some ⟨bf, of, none⟩) 2 cf] 25)).alloc (Obj.cells #[.int .i64 4, .slice (some ⟨bt, ot, none⟩) 2 ct] 25))).heap.size ((w.alloc (Obj.cells #[.int .i64 4, .slice (some ⟨bf, of, none⟩) 2 cf] 25)).alloc (Obj.cells #[.int .i64 4, .slice (some ⟨bt, ot, none⟩) 2 ct] 25)) w' ∧ w'.cell? ⟨w.heap.size, 0, none⟩ = some (.int .i64 4) ∧ w'.cell? ⟨w.heap.size, 1, none⟩ = some (.slice (some ⟨bf, of, none⟩) 2 cf) ∧ w'.cell? ⟨w.heap.size + 1, 0, none⟩ = some (.int .i64 4) ∧ w'.cell? ⟨w.heap.size + 1, 1, none⟩ = some (.slice (some ⟨bt, ot, none⟩) 2 ct) ∧ w'.cell? ⟨bf, of, none⟩ = some (.int .i64 k1) ∧ w'.cell? ⟨bf, of + 1, none⟩ = some (.slice a1 n1 c1) ∧ w'.cell? ⟨bf, of + 2, none⟩ = some (.int .i64 k2) ∧ w'.cell? ⟨bf, of + 2 + 1, none⟩ = some (.slice a2 n2 c2) ∧ w'.cell? ⟨bt, ot, none⟩ = some (.int .i64 k3) ∧ w'.cell? ⟨bt, ot + 1, none⟩ = some (.slice a3 n3 c3) ∧ w'.cell? ⟨bt, ot + 2, none⟩ = some (.int .i64 k4) ∧ w'.cell? ⟨bt, ot + 2 + 1, none⟩ = some (.slice a4 n4 c4))) (by kernel_rfl) ?_ (fun hS0 => ?_)
    · (refine (fun hB => ⟨hB, cell_keep x0 hB, cell_keep x1 hB, cell_keep x2 hB, cell_keep x3 hB, cell_keep d0 hB, cell_keep d1 hB, cell_keep d2 hB, cell_keep d3 hB, cell_keep e0 hB, cell_keep e1 hB, cell_keep e2 hB, cell_keep e3 hB⟩ : Below (((w.alloc (Obj.cells #[.int .i64 4, .slice (some ⟨bf, of, none⟩) 2 cf] 25)).alloc (Obj.cells #[.int .i64 4, .slice (some ⟨bt, ot, none⟩) 2 ct] 25))).heap.size ((w.alloc (Obj.cells #[.int .i64 4, .slice (some ⟨bf, of, none⟩) 2 cf] 25)).alloc (Obj.cells #[.int .i64 4, .slice (some ⟨bt, ot, none⟩) 2 ct] 25)) _ → _) ?_; exact below_drew _)
    refine regTake (i := 0) (v := ?vn3_0) rfl (by kernel_rfl) (by kernel_rfl) (by kernel_rfl) (fun _ _ _ h => h) (Or.inl ⟨by rfl, ?hyn3_0⟩) (by assumption) ?_
    case hyn3_0 => (intro w hSw; (try dsimp only at hSw); go_simp; (try with_reducible rfl))
    try simp only [Act.put, List.setIfInBounds_toArray, List.set_cons_zero, List.set_cons_succ]
    refine regTake (i := 1) (v := ?vn3_1) rfl (by kernel_rfl) (by kernel_rfl) (by kernel_rfl) (fun _ _ _ h => h) (Or.inl ⟨by rfl, ?hyn3_1⟩) (by assumption) ?_
    case hyn3_1 => (intro w hSw; (try dsimp only at hSw); go_simp; (try with_reducible rfl))
    try simp only [Act.put, List.setIfInBounds_toArray, List.set_cons_zero, List.set_cons_succ]
    refine regTake (i := 2) (v := ?vn3_2) rfl (by kernel_rfl) (by kernel_rfl) (by kernel_rfl) (fun _ _ _ h => h) (Or.inl ⟨by rfl, ?hyn3_2⟩) (by assumption) ?_
    case hyn3_2 => (intro w hSw; (try dsimp only at hSw); go_simp; (try with_reducible rfl))
    try simp only [Act.put, List.setIfInBounds_toArray, List.set_cons_zero, List.set_cons_succ]
    refine regTake (i := 3) (v := ?vn3_3) rfl (by kernel_rfl) (by kernel_rfl) (by kernel_rfl) (fun _ _ _ h => h) (Or.inl ⟨by rfl, ?hyn3_3⟩) (by assumption) ?_
    case hyn3_3 => (intro w hSw; (try dsimp only at hSw); go_simp; (try with_reducible rfl))
    try simp only [Act.put, List.setIfInBounds_toArray, List.set_cons_zero, List.set_cons_succ]
    refine regTake (i := 4) (v := ?vn3_4) rfl (by kernel_rfl) (by kernel_rfl) (by kernel_rfl) (fun _ _ _ h => h) (Or.inl ⟨by rfl, ?hyn3_4⟩) (by assumption) ?_
    case hyn3_4 => (intro w hSw; (try dsimp only at hSw); go_simp; (try with_reducible rfl))
    try simp only [Act.put, List.setIfInBounds_toArray, List.set_cons_zero, List.set_cons_succ]
    refine regTake (i := 5) (v := ?vn3_5) rfl (by kernel_rfl) (by kernel_rfl) (by kernel_rfl) (fun _ _ _ h => h) (Or.inl ⟨by rfl, ?hyn3_5⟩) (by assumption) ?_
    case hyn3_5 => (intro w hSw; (try dsimp only at hSw); go_simp; (try with_reducible rfl))
    try simp only [Act.put, List.setIfInBounds_toArray, List.set_cons_zero, List.set_cons_succ]
    refine regTake (i := 6) (v := ?vn3_6) rfl (by kernel_rfl) (by kernel_rfl) (by kernel_rfl) (fun _ _ _ h => h) (Or.inl ⟨by rfl, ?hyn3_6⟩) (by assumption) ?_
    case hyn3_6 => (intro w hSw; (try dsimp only at hSw); go_simp; (try with_reducible rfl))
    try simp only [Act.put, List.setIfInBounds_toArray, List.set_cons_zero, List.set_cons_succ]
    refine regTake (i := 7) (v := ?vn3_7) rfl (by kernel_rfl) (by kernel_rfl) (by kernel_rfl) (fun _ _ _ h => h) (Or.inl ⟨by rfl, ?hyn3_7⟩) (by assumption) ?_
    case hyn3_7 => (intro w hSw; (try dsimp only at hSw); go_simp; (try with_reducible rfl))
    try simp only [Act.put, List.setIfInBounds_toArray, List.set_cons_zero, List.set_cons_succ]
    refine wpAnyH_ready (rs := [8]) (by kernel_rfl) (by simp) ?_
    refine regCons rfl (fun K hK => ?_)
    go_simp
    refine (HIN.out x' x _ _ _ _ _ HP.out.2.2.1 HP.out.1 (H.out.2.2.1.below (below_drew _)) (H.out.1.below (below_drew _))).mono ?_
    rw [HA.out]
    rintro e w1 ⟨rfl, hb1⟩
    have hk0 := below_trans (below_drew ((w.alloc (Obj.cells #[.int .i64 4, .slice (some ⟨bf, of, none⟩) 2 cf] 25)).alloc (Obj.cells #[.int .i64 4, .slice (some ⟨bt, ot, none⟩) 2 ct] 25))) hb1
    refine hK.out _ _ ?_ (fun hS1 => ?_)
    · (refine (fun hB => ⟨hB, cell_keep x0 hB, cell_keep x1 hB, cell_keep x2 hB, cell_keep x3 hB, cell_keep d0 hB, cell_keep d1 hB, cell_keep d2 hB, cell_keep d3 hB, cell_keep e0 hB, cell_keep e1 hB, cell_keep e2 hB, cell_keep e3 hB⟩ : Below (((w.alloc (Obj.cells #[.int .i64 4, .slice (some ⟨bf, of, none⟩) 2 cf] 25)).alloc (Obj.cells #[.int .i64 4, .slice (some ⟨bt, ot, none⟩) 2 ct] 25))).heap.size ((w.alloc (Obj.cells #[.int .i64 4, .slice (some ⟨bf, of, none⟩) 2 cf] 25)).alloc (Obj.cells #[.int .i64 4, .slice (some ⟨bt, ot, none⟩) 2 ct] 25)) _ → _) ?_; exact hk0)
    clear hK K hS0
    try simp only [Act.put, List.setIfInBounds_toArray, List.set_cons_zero, List.set_cons_succ]
    refine regTake (i := 9) (v := ?vn3_9) rfl (by kernel_rfl) (by kernel_rfl) (by kernel_rfl) (fun _ _ _ h => h) (Or.inl ⟨by rfl, ?hyn3_9⟩) (by assumption) ?_
    case hyn3_9 => (intro w hSw; (try dsimp only at hSw); go_simp; (try with_reducible rfl))
    try simp only [Act.put, List.setIfInBounds_toArray, List.set_cons_zero, List.set_cons_succ]
    refine regTake (i := 10) (v := undef) rfl (by kernel_rfl) (by kernel_rfl) (by kernel_rfl) (fun _ _ _ h => h) (Or.inr ⟨by rfl, rfl⟩) (by assumption) ?_
    try simp only [Act.put, List.setIfInBounds_toArray, List.set_cons_zero, List.set_cons_succ]
    refine regTake (i := 11) (v := undef) rfl (by kernel_rfl) (by kernel_rfl) (by kernel_rfl) (fun _ _ _ h => h) (Or.inr ⟨by rfl, rfl⟩) (by assumption) ?_
    try simp only [Act.put, List.setIfInBounds_toArray, List.set_cons_zero, List.set_cons_succ]
    refine regTake (i := 12) (v := undef) rfl (by kernel_rfl) (by kernel_rfl) (by kernel_rfl) (fun _ _ _ h => h) (Or.inr ⟨by rfl, rfl⟩) (by assumption) ?_
    try simp only [Act.put, List.setIfInBounds_toArray, List.set_cons_zero, List.set_cons_succ]
    refine regTake (i := 13) (v := undef) rfl (by kernel_rfl) (by kernel_rfl) (by kernel_rfl) (fun _ _ _ h => h) (Or.inr ⟨by rfl, rfl⟩) (by assumption) ?_
    try simp only [Act.put, List.setIfInBounds_toArray, List.set_cons_zero, List.set_cons_succ]
    refine regTake (i := 14) (v := undef) rfl (by kernel_rfl) (by kernel_rfl) (by kernel_rfl) (fun _ _ _ h => h) (Or.inr ⟨by rfl, rfl⟩) (by assumption) ?_
    try simp only [Act.put, List.setIfInBounds_toArray, List.set_cons_zero, List.set_cons_succ]
    refine regTake (i := 15) (v := undef) rfl (by kernel_rfl) (by kernel_rfl) (by kernel_rfl) (fun _ _ _ h => h) (Or.inr ⟨by rfl, rfl⟩) (by assumption) ?_
    try simp only [Act.put, List.setIfInBounds_toArray, List.set_cons_zero, List.set_cons_succ]
    refine regTake (i := 16) (v := undef) rfl (by kernel_rfl) (by kernel_rfl) (by kernel_rfl) (fun _ _ _ h => h) (Or.inr ⟨by rfl, rfl⟩) (by assumption) ?_
    try simp only [Act.put, List.setIfInBounds_toArray, List.set_cons_zero, List.set_cons_succ]
    refine regTake (i := 17) (v := undef) rfl (by kernel_rfl) (by kernel_rfl) (by kernel_rfl) (fun _ _ _ h => h) (Or.inr ⟨by rfl, rfl⟩) (by assumption) ?_
    try simp only [Act.put, List.setIfInBounds_toArray, List.set_cons_zero, List.set_cons_succ]
    refine regTake (i := 18) (v := undef) rfl (by kernel_rfl) (by kernel_rfl) (by kernel_rfl) (fun _ _ _ h => h) (Or.inr ⟨by rfl, rfl⟩) (by assumption) ?_
    try simp only [Act.put, List.setIfInBounds_toArray, List.set_cons_zero, List.set_cons_succ]
    refine regTake (i := 19) (v := .bool false) rfl (by kernel_rfl) (by kernel_rfl) (by kernel_rfl) (fun _ _ _ h => h) (Or.inl ⟨by rfl, ?hyn3_19⟩) (by assumption) ?_
    case hyn3_19 => (intro w hSw; (try dsimp only at hSw); go_simp; (try with_reducible rfl))
    try simp only [Act.put, List.setIfInBounds_toArray, List.set_cons_zero, List.set_cons_succ]
    refine regTake (i := 20) (v := ?vn3_20) rfl (by kernel_rfl) (by kernel_rfl) (by kernel_rfl) (fun _ _ _ h => h) (Or.inl ⟨by rfl, ?hyn3_20⟩) (by assumption) ?_
    case hyn3_20 => (intro w hSw; (try dsimp only at hSw); go_simp; (try with_reducible rfl))
    try simp only [Act.put, List.setIfInBounds_toArray, List.set_cons_zero, List.set_cons_succ]
    refine wpAnyH_done (by kernel_rfl) ?_ _
    go_wp2_with fail
    go_ret
    exact ⟨ret_b rfl, below_trans hb0 (hk0)⟩
  · go_enter Try.func94, Try.ntmps94
    go_wp2_with fail
    refine wp_region_held_drew (S := (fun w' => Below (((w.alloc (Obj.cells #[.int .i64 4, .slice (some ⟨bf, of, none⟩) 2 cf] 25)).alloc (Obj.cells #[.int .i64 4, .slice (some ⟨bt, ot, none⟩) 2 ct] 25))).heap.size ((w.alloc (Obj.cells #[.int .i64 4, .slice (some ⟨bf, of, none⟩) 2 cf] 25)).alloc (Obj.cells #[.int .i64 4, .slice (some ⟨bt, ot, none⟩) 2 ct] 25)) w' ∧ w'.cell? ⟨w.heap.size, 0, none⟩ = some (.int .i64 4) ∧ w'.cell? ⟨w.heap.size, 1, none⟩ = some (.slice (some ⟨bf, of, none⟩) 2 cf) ∧ w'.cell? ⟨w.heap.size + 1, 0, none⟩ = some (.int .i64 4) ∧ w'.cell? ⟨w.heap.size + 1, 1, none⟩ = some (.slice (some ⟨bt, ot, none⟩) 2 ct) ∧ w'.cell? ⟨bf, of, none⟩ = some (.int .i64 k1) ∧ w'.cell? ⟨bf, of + 1, none⟩ = some (.slice a1 n1 c1) ∧ w'.cell? ⟨bf, of + 2, none⟩ = some (.int .i64 k2) ∧ w'.cell? ⟨bf, of + 2 + 1, none⟩ = some (.slice a2 n2 c2) ∧ w'.cell? ⟨bt, ot, none⟩ = some (.int .i64 k3) ∧ w'.cell? ⟨bt, ot + 1, none⟩ = some (.slice a3 n3 c3) ∧ w'.cell? ⟨bt, ot + 2, none⟩ = some (.int .i64 k4) ∧ w'.cell? ⟨bt, ot + 2 + 1, none⟩ = some (.slice a4 n4 c4))) (by kernel_rfl) ?_ (fun hS0 => ?_)
    · (refine (fun hB => ⟨hB, cell_keep x0 hB, cell_keep x1 hB, cell_keep x2 hB, cell_keep x3 hB, cell_keep d0 hB, cell_keep d1 hB, cell_keep d2 hB, cell_keep d3 hB, cell_keep e0 hB, cell_keep e1 hB, cell_keep e2 hB, cell_keep e3 hB⟩ : Below (((w.alloc (Obj.cells #[.int .i64 4, .slice (some ⟨bf, of, none⟩) 2 cf] 25)).alloc (Obj.cells #[.int .i64 4, .slice (some ⟨bt, ot, none⟩) 2 ct] 25))).heap.size ((w.alloc (Obj.cells #[.int .i64 4, .slice (some ⟨bf, of, none⟩) 2 cf] 25)).alloc (Obj.cells #[.int .i64 4, .slice (some ⟨bt, ot, none⟩) 2 ct] 25)) _ → _) ?_; exact below_drew _)
    refine regTake (i := 0) (v := ?vn4_0) rfl (by kernel_rfl) (by kernel_rfl) (by kernel_rfl) (fun _ _ _ h => h) (Or.inl ⟨by rfl, ?hyn4_0⟩) (by assumption) ?_
    case hyn4_0 => (intro w hSw; (try dsimp only at hSw); go_simp; (try with_reducible rfl))
    try simp only [Act.put, List.setIfInBounds_toArray, List.set_cons_zero, List.set_cons_succ]
    refine regTake (i := 1) (v := ?vn4_1) rfl (by kernel_rfl) (by kernel_rfl) (by kernel_rfl) (fun _ _ _ h => h) (Or.inl ⟨by rfl, ?hyn4_1⟩) (by assumption) ?_
    case hyn4_1 => (intro w hSw; (try dsimp only at hSw); go_simp; (try with_reducible rfl))
    try simp only [Act.put, List.setIfInBounds_toArray, List.set_cons_zero, List.set_cons_succ]
    refine regTake (i := 2) (v := ?vn4_2) rfl (by kernel_rfl) (by kernel_rfl) (by kernel_rfl) (fun _ _ _ h => h) (Or.inl ⟨by rfl, ?hyn4_2⟩) (by assumption) ?_
    case hyn4_2 => (intro w hSw; (try dsimp only at hSw); go_simp; (try with_reducible rfl))
    try simp only [Act.put, List.setIfInBounds_toArray, List.set_cons_zero, List.set_cons_succ]
    refine regTake (i := 3) (v := ?vn4_3) rfl (by kernel_rfl) (by kernel_rfl) (by kernel_rfl) (fun _ _ _ h => h) (Or.inl ⟨by rfl, ?hyn4_3⟩) (by assumption) ?_
    case hyn4_3 => (intro w hSw; (try dsimp only at hSw); go_simp; (try with_reducible rfl))
    try simp only [Act.put, List.setIfInBounds_toArray, List.set_cons_zero, List.set_cons_succ]
    refine regTake (i := 4) (v := ?vn4_4) rfl (by kernel_rfl) (by kernel_rfl) (by kernel_rfl) (fun _ _ _ h => h) (Or.inl ⟨by rfl, ?hyn4_4⟩) (by assumption) ?_
    case hyn4_4 => (intro w hSw; (try dsimp only at hSw); go_simp; (try with_reducible rfl))
    try simp only [Act.put, List.setIfInBounds_toArray, List.set_cons_zero, List.set_cons_succ]
    refine regTake (i := 5) (v := ?vn4_5) rfl (by kernel_rfl) (by kernel_rfl) (by kernel_rfl) (fun _ _ _ h => h) (Or.inl ⟨by rfl, ?hyn4_5⟩) (by assumption) ?_
    case hyn4_5 => (intro w hSw; (try dsimp only at hSw); go_simp; (try with_reducible rfl))
    try simp only [Act.put, List.setIfInBounds_toArray, List.set_cons_zero, List.set_cons_succ]
    refine regTake (i := 6) (v := ?vn4_6) rfl (by kernel_rfl) (by kernel_rfl) (by kernel_rfl) (fun _ _ _ h => h) (Or.inl ⟨by rfl, ?hyn4_6⟩) (by assumption) ?_
    case hyn4_6 => (intro w hSw; (try dsimp only at hSw); go_simp; (try with_reducible rfl))
    try simp only [Act.put, List.setIfInBounds_toArray, List.set_cons_zero, List.set_cons_succ]
    refine regTake (i := 7) (v := ?vn4_7) rfl (by kernel_rfl) (by kernel_rfl) (by kernel_rfl) (fun _ _ _ h => h) (Or.inl ⟨by rfl, ?hyn4_7⟩) (by assumption) ?_
    case hyn4_7 => (intro w hSw; (try dsimp only at hSw); go_simp; (try with_reducible rfl))
    try simp only [Act.put, List.setIfInBounds_toArray, List.set_cons_zero, List.set_cons_succ]
    refine wpAnyH_ready (rs := [8]) (by kernel_rfl) (by simp) ?_
    refine regCons rfl (fun K hK => ?_)
    go_simp
    refine (HIN.out x' x _ _ _ _ _ HP.out.2.2.1 HP.out.1 (H.out.2.2.1.below (below_drew _)) (H.out.1.below (below_drew _))).mono ?_
    rw [HA.out]
    rintro e w1 ⟨rfl, hb1⟩
    have hk0 := below_trans (below_drew ((w.alloc (Obj.cells #[.int .i64 4, .slice (some ⟨bf, of, none⟩) 2 cf] 25)).alloc (Obj.cells #[.int .i64 4, .slice (some ⟨bt, ot, none⟩) 2 ct] 25))) hb1
    refine hK.out _ _ ?_ (fun hS1 => ?_)
    · (refine (fun hB => ⟨hB, cell_keep x0 hB, cell_keep x1 hB, cell_keep x2 hB, cell_keep x3 hB, cell_keep d0 hB, cell_keep d1 hB, cell_keep d2 hB, cell_keep d3 hB, cell_keep e0 hB, cell_keep e1 hB, cell_keep e2 hB, cell_keep e3 hB⟩ : Below (((w.alloc (Obj.cells #[.int .i64 4, .slice (some ⟨bf, of, none⟩) 2 cf] 25)).alloc (Obj.cells #[.int .i64 4, .slice (some ⟨bt, ot, none⟩) 2 ct] 25))).heap.size ((w.alloc (Obj.cells #[.int .i64 4, .slice (some ⟨bf, of, none⟩) 2 cf] 25)).alloc (Obj.cells #[.int .i64 4, .slice (some ⟨bt, ot, none⟩) 2 ct] 25)) _ → _) ?_; exact hk0)
    clear hK K hS0
    try simp only [Act.put, List.setIfInBounds_toArray, List.set_cons_zero, List.set_cons_succ]
    refine regTake (i := 9) (v := ?vn4_9) rfl (by kernel_rfl) (by kernel_rfl) (by kernel_rfl) (fun _ _ _ h => h) (Or.inl ⟨by rfl, ?hyn4_9⟩) (by assumption) ?_
    case hyn4_9 => (intro w hSw; (try dsimp only at hSw); go_simp; (try with_reducible rfl))
    try simp only [Act.put, List.setIfInBounds_toArray, List.set_cons_zero, List.set_cons_succ]
    refine regTake (i := 10) (v := ?vn4_10) rfl (by kernel_rfl) (by kernel_rfl) (by kernel_rfl) (fun _ _ _ h => h) (Or.inl ⟨by rfl, ?hyn4_10⟩) (by assumption) ?_
    case hyn4_10 => (intro w hSw; (try dsimp only at hSw); go_simp; (try with_reducible rfl))
    try simp only [Act.put, List.setIfInBounds_toArray, List.set_cons_zero, List.set_cons_succ]
    refine regTake (i := 11) (v := ?vn4_11) rfl (by kernel_rfl) (by kernel_rfl) (by kernel_rfl) (fun _ _ _ h => h) (Or.inl ⟨by rfl, ?hyn4_11⟩) (by assumption) ?_
    case hyn4_11 => (intro w hSw; (try dsimp only at hSw); go_simp; (try with_reducible rfl))
    try simp only [Act.put, List.setIfInBounds_toArray, List.set_cons_zero, List.set_cons_succ]
    refine regTake (i := 12) (v := ?vn4_12) rfl (by kernel_rfl) (by kernel_rfl) (by kernel_rfl) (fun _ _ _ h => h) (Or.inl ⟨by rfl, ?hyn4_12⟩) (by assumption) ?_
    case hyn4_12 => (intro w hSw; (try dsimp only at hSw); go_simp; (try with_reducible rfl))
    try simp only [Act.put, List.setIfInBounds_toArray, List.set_cons_zero, List.set_cons_succ]
    refine regTake (i := 13) (v := ?vn4_13) rfl (by kernel_rfl) (by kernel_rfl) (by kernel_rfl) (fun _ _ _ h => h) (Or.inl ⟨by rfl, ?hyn4_13⟩) (by assumption) ?_
    case hyn4_13 => (intro w hSw; (try dsimp only at hSw); go_simp; (try with_reducible rfl))
    try simp only [Act.put, List.setIfInBounds_toArray, List.set_cons_zero, List.set_cons_succ]
    refine regTake (i := 14) (v := ?vn4_14) rfl (by kernel_rfl) (by kernel_rfl) (by kernel_rfl) (fun _ _ _ h => h) (Or.inl ⟨by rfl, ?hyn4_14⟩) (by assumption) ?_
    case hyn4_14 => (intro w hSw; (try dsimp only at hSw); go_simp; (try with_reducible rfl))
    try simp only [Act.put, List.setIfInBounds_toArray, List.set_cons_zero, List.set_cons_succ]
    refine regTake (i := 15) (v := ?vn4_15) rfl (by kernel_rfl) (by kernel_rfl) (by kernel_rfl) (fun _ _ _ h => h) (Or.inl ⟨by rfl, ?hyn4_15⟩) (by assumption) ?_
    case hyn4_15 => (intro w hSw; (try dsimp only at hSw); go_simp; (try with_reducible rfl))
    try simp only [Act.put, List.setIfInBounds_toArray, List.set_cons_zero, List.set_cons_succ]
    refine regTake (i := 16) (v := ?vn4_16) rfl (by kernel_rfl) (by kernel_rfl) (by kernel_rfl) (fun _ _ _ h => h) (Or.inl ⟨by rfl, ?hyn4_16⟩) (by assumption) ?_
    case hyn4_16 => (intro w hSw; (try dsimp only at hSw); go_simp; (try with_reducible rfl))
    try simp only [Act.put, List.setIfInBounds_toArray, List.set_cons_zero, List.set_cons_succ]
    refine regTake (i := 17) (v := ?vn4_17) rfl (by kernel_rfl) (by kernel_rfl) (by kernel_rfl) (fun _ _ _ h => h) (Or.inl ⟨by rfl, ?hyn4_17⟩) (by assumption) ?_
    case hyn4_17 => (intro w hSw; (try dsimp only at hSw); go_simp; (try with_reducible rfl))
    try simp only [Act.put, List.setIfInBounds_toArray, List.set_cons_zero, List.set_cons_succ]
    refine wpAnyH_ready (rs := [18]) (by kernel_rfl) (by simp) ?_
    refine regCons rfl (fun K hK => ?_)
    go_simp
    refine (HIH.out y y' _ _ _ _ _ HP.out.2.1 HP.out.2.2.2 (H.out.2.1.below hk0) (H.out.2.2.2.below hk0)).mono ?_
    rw [HB.out]
    rintro e w2 ⟨rfl, hb2⟩
    have hk1 := below_trans hk0 hb2
    refine hK.out _ _ ?_ (fun hS2 => ?_)
    · (refine (fun hB => ⟨hB, cell_keep x0 hB, cell_keep x1 hB, cell_keep x2 hB, cell_keep x3 hB, cell_keep d0 hB, cell_keep d1 hB, cell_keep d2 hB, cell_keep d3 hB, cell_keep e0 hB, cell_keep e1 hB, cell_keep e2 hB, cell_keep e3 hB⟩ : Below (((w.alloc (Obj.cells #[.int .i64 4, .slice (some ⟨bf, of, none⟩) 2 cf] 25)).alloc (Obj.cells #[.int .i64 4, .slice (some ⟨bt, ot, none⟩) 2 ct] 25))).heap.size ((w.alloc (Obj.cells #[.int .i64 4, .slice (some ⟨bf, of, none⟩) 2 cf] 25)).alloc (Obj.cells #[.int .i64 4, .slice (some ⟨bt, ot, none⟩) 2 ct] 25)) _ → _) ?_; exact hk1)
    clear hK K hS1
    try simp only [Act.put, List.setIfInBounds_toArray, List.set_cons_zero, List.set_cons_succ]
    refine regTake (i := 19) (v := .bool B) rfl (by kernel_rfl) (by kernel_rfl) (by kernel_rfl) (fun _ _ _ h => h) (Or.inl ⟨by rfl, ?hyn4_19⟩) (by assumption) ?_
    case hyn4_19 => (intro w hSw; (try dsimp only at hSw); go_simp; (try with_reducible rfl))
    try simp only [Act.put, List.setIfInBounds_toArray, List.set_cons_zero, List.set_cons_succ]
    refine regTake (i := 20) (v := ?vn4_20) rfl (by kernel_rfl) (by kernel_rfl) (by kernel_rfl) (fun _ _ _ h => h) (Or.inl ⟨by rfl, ?hyn4_20⟩) (by assumption) ?_
    case hyn4_20 => (intro w hSw; (try dsimp only at hSw); go_simp; (try with_reducible rfl))
    try simp only [Act.put, List.setIfInBounds_toArray, List.set_cons_zero, List.set_cons_succ]
    refine wpAnyH_done (by kernel_rfl) ?_ _
    go_wp2_with fail
    go_ret
    exact ⟨ret_b rfl, below_trans hb0 (hk1)⟩

set_option maxRecDepth 100000 in
set_option maxHeartbeats 4000000 in
theorem pos_two5 (d : Nat) (ih : PoC d) (x y x' y' : Ty) (v1 v2 : Value) (f1 f2 : List Nat) (w : World) (hx : shp d x = true) (hy : shp d y = true) (hx' : shp d x' = true) (hy' : shp d y' = true) (h1 : (Ty.mk 5 [x, y]).At w v1 f1) (h2 : (Ty.mk 5 [x', y']).At w v2 f2) :
    Calls Try.prog 94 #[v1, v2] w (fun e w' => e = .returned (.bool (sub d 1 x x' && sub d 1 y y')) ∧ Below w.heap.size w w') := by
  obtain ⟨s1, rfl, hs1⟩ := Ty.at_mk.1 h1
  obtain ⟨s2, rfl, hs2⟩ := Ty.at_mk.1 h2
  obtain ⟨bf, of, cf, k1, n1, a1, c1, k2, n2, a2, c2, g1, g2, rfl, hbf, d0, d1, d2, d3, hX1, hX2, _, hcf⟩ := hs1.two
  obtain ⟨bt, ot, ct, k3, n3, a3, c3, k4, n4, a4, c4, g3, g4, rfl, hbt, e0, e1, e2, e3, hY1, hY2, _, hct⟩ := hs2.two
  have hb0 : Below w.heap.size w ((w.alloc (Obj.cells #[.int .i64 5, .slice (some ⟨bf, of, none⟩) 2 cf] 25)).alloc (Obj.cells #[.int .i64 5, .slice (some ⟨bt, ot, none⟩) 2 ct] 25)) := ((Below.refl _ _).alloc (Nat.le_refl _) _).alloc (by simp) _
  obtain ⟨x0, x1, x2, x3⟩ := box_cells2 (Below.refl (((w.alloc (Obj.cells #[.int .i64 5, .slice (some ⟨bf, of, none⟩) 2 cf] 25)).alloc (Obj.cells #[.int .i64 5, .slice (some ⟨bt, ot, none⟩) 2 ct] 25))).heap.size ((w.alloc (Obj.cells #[.int .i64 5, .slice (some ⟨bf, of, none⟩) 2 cf] 25)).alloc (Obj.cells #[.int .i64 5, .slice (some ⟨bt, ot, none⟩) 2 ct] 25)))
  replace d0 := cell_keep d0 hb0
  replace d1 := cell_keep d1 hb0
  replace d2 := cell_keep d2 hb0
  replace d3 := cell_keep d3 hb0
  replace e0 := cell_keep e0 hb0
  replace e1 := cell_keep e1 hb0
  replace e2 := cell_keep e2 hb0
  replace e3 := cell_keep e3 hb0
  have H := hid (And.intro (hX1.below hb0) (And.intro (hX2.below hb0) (And.intro (hY1.below hb0) (hY2.below hb0))))
  have HP := hid (And.intro hx (And.intro hy (And.intro hx' hy')))
  have HIH := hid ih
  clear ih h1 h2 hs1 hs2 hX1 hX2 hY1 hY2 hx hy hx' hy'
  generalize hA : sub d 1 x x' = A at *
  generalize hB : sub d 1 y y' = B at *
  have HA := hid hA
  have HB := hid hB
  clear hA hB
  cases A
  · go_enter Try.func94, Try.ntmps94
    go_wp2_with fail
    refine wp_region_held_drew (S := (fun w' => Below (((w.alloc (Obj.cells #[.int .i64 5, .slice (some ⟨bf, of, none⟩) 2 cf] 25)).alloc (Obj.cells #[.int .i64 5, .slice (some ⟨bt, ot, none⟩) 2 ct] 25))).heap.size ((w.alloc (Obj.cells #[.int .i64 5, .slice (some ⟨bf, of, none⟩) 2 cf] 25)).alloc (Obj.cells #[.int .i64 5, .slice (some ⟨bt, ot, none⟩) 2 ct] 25)) w' ∧ w'.cell? ⟨w.heap.size, 0, none⟩ = some (.int .i64 5) ∧ w'.cell? ⟨w.heap.size, 1, none⟩ = some (.slice (some ⟨bf, of, none⟩) 2 cf) ∧ w'.cell? ⟨w.heap.size + 1, 0, none⟩ = some (.int .i64 5) ∧ w'.cell? ⟨w.heap.size + 1, 1, none⟩ = some (.slice (some ⟨bt, ot, none⟩) 2 ct) ∧ w'.cell? ⟨bf, of, none⟩ = some (.int .i64 k1) ∧ w'.cell? ⟨bf, of + 1, none⟩ = some (.slice a1 n1 c1) ∧ w'.cell? ⟨bf, of + 2, none⟩ = some (.int .i64 k2) ∧ w'.cell? ⟨bf, of + 2 + 1, none⟩ = some (.slice a2 n2 c2) ∧ w'.cell? ⟨bt, ot, none⟩ = some (.int .i64 k3) ∧ w'.cell? ⟨bt, ot + 1, none⟩ = some (.slice a3 n3 c3) ∧ w'.cell? ⟨bt, ot + 2, none⟩ = some (.int .i64 k4) ∧ w'.cell? ⟨bt, ot + 2 + 1, none⟩ = some (.slice a4 n4 c4))) (by kernel_rfl) ?_ (fun hS0 => ?_)
    · (refine (fun hB => ⟨hB, cell_keep x0 hB, cell_keep x1 hB, cell_keep x2 hB, cell_keep x3 hB, cell_keep d0 hB, cell_keep d1 hB, cell_keep d2 hB, cell_keep d3 hB, cell_keep e0 hB, cell_keep e1 hB, cell_keep e2 hB, cell_keep e3 hB⟩ : Below (((w.alloc (Obj.cells #[.int .i64 5, .slice (some ⟨bf, of, none⟩) 2 cf] 25)).alloc (Obj.cells #[.int .i64 5, .slice (some ⟨bt, ot, none⟩) 2 ct] 25))).heap.size ((w.alloc (Obj.cells #[.int .i64 5, .slice (some ⟨bf, of, none⟩) 2 cf] 25)).alloc (Obj.cells #[.int .i64 5, .slice (some ⟨bt, ot, none⟩) 2 ct] 25)) _ → _) ?_; exact below_drew _)
    refine regTake (i := 0) (v := ?vn5_0) rfl (by kernel_rfl) (by kernel_rfl) (by kernel_rfl) (fun _ _ _ h => h) (Or.inl ⟨by rfl, ?hyn5_0⟩) (by assumption) ?_
    case hyn5_0 => (intro w hSw; (try dsimp only at hSw); go_simp; (try with_reducible rfl))
    try simp only [Act.put, List.setIfInBounds_toArray, List.set_cons_zero, List.set_cons_succ]
    refine regTake (i := 1) (v := ?vn5_1) rfl (by kernel_rfl) (by kernel_rfl) (by kernel_rfl) (fun _ _ _ h => h) (Or.inl ⟨by rfl, ?hyn5_1⟩) (by assumption) ?_
    case hyn5_1 => (intro w hSw; (try dsimp only at hSw); go_simp; (try with_reducible rfl))
    try simp only [Act.put, List.setIfInBounds_toArray, List.set_cons_zero, List.set_cons_succ]
    refine regTake (i := 2) (v := ?vn5_2) rfl (by kernel_rfl) (by kernel_rfl) (by kernel_rfl) (fun _ _ _ h => h) (Or.inl ⟨by rfl, ?hyn5_2⟩) (by assumption) ?_
    case hyn5_2 => (intro w hSw; (try dsimp only at hSw); go_simp; (try with_reducible rfl))
    try simp only [Act.put, List.setIfInBounds_toArray, List.set_cons_zero, List.set_cons_succ]
    refine regTake (i := 3) (v := ?vn5_3) rfl (by kernel_rfl) (by kernel_rfl) (by kernel_rfl) (fun _ _ _ h => h) (Or.inl ⟨by rfl, ?hyn5_3⟩) (by assumption) ?_
    case hyn5_3 => (intro w hSw; (try dsimp only at hSw); go_simp; (try with_reducible rfl))
    try simp only [Act.put, List.setIfInBounds_toArray, List.set_cons_zero, List.set_cons_succ]
    refine regTake (i := 4) (v := ?vn5_4) rfl (by kernel_rfl) (by kernel_rfl) (by kernel_rfl) (fun _ _ _ h => h) (Or.inl ⟨by rfl, ?hyn5_4⟩) (by assumption) ?_
    case hyn5_4 => (intro w hSw; (try dsimp only at hSw); go_simp; (try with_reducible rfl))
    try simp only [Act.put, List.setIfInBounds_toArray, List.set_cons_zero, List.set_cons_succ]
    refine regTake (i := 5) (v := ?vn5_5) rfl (by kernel_rfl) (by kernel_rfl) (by kernel_rfl) (fun _ _ _ h => h) (Or.inl ⟨by rfl, ?hyn5_5⟩) (by assumption) ?_
    case hyn5_5 => (intro w hSw; (try dsimp only at hSw); go_simp; (try with_reducible rfl))
    try simp only [Act.put, List.setIfInBounds_toArray, List.set_cons_zero, List.set_cons_succ]
    refine regTake (i := 6) (v := ?vn5_6) rfl (by kernel_rfl) (by kernel_rfl) (by kernel_rfl) (fun _ _ _ h => h) (Or.inl ⟨by rfl, ?hyn5_6⟩) (by assumption) ?_
    case hyn5_6 => (intro w hSw; (try dsimp only at hSw); go_simp; (try with_reducible rfl))
    try simp only [Act.put, List.setIfInBounds_toArray, List.set_cons_zero, List.set_cons_succ]
    refine regTake (i := 7) (v := ?vn5_7) rfl (by kernel_rfl) (by kernel_rfl) (by kernel_rfl) (fun _ _ _ h => h) (Or.inl ⟨by rfl, ?hyn5_7⟩) (by assumption) ?_
    case hyn5_7 => (intro w hSw; (try dsimp only at hSw); go_simp; (try with_reducible rfl))
    try simp only [Act.put, List.setIfInBounds_toArray, List.set_cons_zero, List.set_cons_succ]
    refine regTake (i := 8) (v := ?vn5_8) rfl (by kernel_rfl) (by kernel_rfl) (by kernel_rfl) (fun _ _ _ h => h) (Or.inl ⟨by rfl, ?hyn5_8⟩) (by assumption) ?_
    case hyn5_8 => (intro w hSw; (try dsimp only at hSw); go_simp; (try with_reducible rfl))
    try simp only [Act.put, List.setIfInBounds_toArray, List.set_cons_zero, List.set_cons_succ]
    refine regTake (i := 9) (v := ?vn5_9) rfl (by kernel_rfl) (by kernel_rfl) (by kernel_rfl) (fun _ _ _ h => h) (Or.inl ⟨by rfl, ?hyn5_9⟩) (by assumption) ?_
    case hyn5_9 => (intro w hSw; (try dsimp only at hSw); go_simp; (try with_reducible rfl))
    try simp only [Act.put, List.setIfInBounds_toArray, List.set_cons_zero, List.set_cons_succ]
    refine regTake (i := 10) (v := ?vn5_10) rfl (by kernel_rfl) (by kernel_rfl) (by kernel_rfl) (fun _ _ _ h => h) (Or.inl ⟨by rfl, ?hyn5_10⟩) (by assumption) ?_
    case hyn5_10 => (intro w hSw; (try dsimp only at hSw); go_simp; (try with_reducible rfl))
    try simp only [Act.put, List.setIfInBounds_toArray, List.set_cons_zero, List.set_cons_succ]
    refine regTake (i := 11) (v := ?vn5_11) rfl (by kernel_rfl) (by kernel_rfl) (by kernel_rfl) (fun _ _ _ h => h) (Or.inl ⟨by rfl, ?hyn5_11⟩) (by assumption) ?_
    case hyn5_11 => (intro w hSw; (try dsimp only at hSw); go_simp; (try with_reducible rfl))
    try simp only [Act.put, List.setIfInBounds_toArray, List.set_cons_zero, List.set_cons_succ]
    refine wpAnyH_ready (rs := [12]) (by kernel_rfl) (by simp) ?_
    refine regCons rfl (fun K hK => ?_)
    go_simp
    refine (HIH.out x x' _ _ _ _ _ HP.out.1 HP.out.2.2.1 (H.out.1.below (below_drew _)) (H.out.2.2.1.below (below_drew _))).mono ?_
    rw [HA.out]
    rintro e w1 ⟨rfl, hb1⟩
    have hk0 := below_trans (below_drew ((w.alloc (Obj.cells #[.int .i64 5, .slice (some ⟨bf, of, none⟩) 2 cf] 25)).alloc (Obj.cells #[.int .i64 5, .slice (some ⟨bt, ot, none⟩) 2 ct] 25))) hb1
    refine hK.out _ _ ?_ (fun hS1 => ?_)
    · (refine (fun hB => ⟨hB, cell_keep x0 hB, cell_keep x1 hB, cell_keep x2 hB, cell_keep x3 hB, cell_keep d0 hB, cell_keep d1 hB, cell_keep d2 hB, cell_keep d3 hB, cell_keep e0 hB, cell_keep e1 hB, cell_keep e2 hB, cell_keep e3 hB⟩ : Below (((w.alloc (Obj.cells #[.int .i64 5, .slice (some ⟨bf, of, none⟩) 2 cf] 25)).alloc (Obj.cells #[.int .i64 5, .slice (some ⟨bt, ot, none⟩) 2 ct] 25))).heap.size ((w.alloc (Obj.cells #[.int .i64 5, .slice (some ⟨bf, of, none⟩) 2 cf] 25)).alloc (Obj.cells #[.int .i64 5, .slice (some ⟨bt, ot, none⟩) 2 ct] 25)) _ → _) ?_; exact hk0)
    clear hK K hS0
    try simp only [Act.put, List.setIfInBounds_toArray, List.set_cons_zero, List.set_cons_succ]
    refine regTake (i := 13) (v := ?vn5_13) rfl (by kernel_rfl) (by kernel_rfl) (by kernel_rfl) (fun _ _ _ h => h) (Or.inl ⟨by rfl, ?hyn5_13⟩) (by assumption) ?_
    case hyn5_13 => (intro w hSw; (try dsimp only at hSw); go_simp; (try with_reducible rfl))
    try simp only [Act.put, List.setIfInBounds_toArray, List.set_cons_zero, List.set_cons_succ]
    refine regTake (i := 14) (v := undef) rfl (by kernel_rfl) (by kernel_rfl) (by kernel_rfl) (fun _ _ _ h => h) (Or.inr ⟨by rfl, rfl⟩) (by assumption) ?_
    try simp only [Act.put, List.setIfInBounds_toArray, List.set_cons_zero, List.set_cons_succ]
    refine regTake (i := 15) (v := undef) rfl (by kernel_rfl) (by kernel_rfl) (by kernel_rfl) (fun _ _ _ h => h) (Or.inr ⟨by rfl, rfl⟩) (by assumption) ?_
    try simp only [Act.put, List.setIfInBounds_toArray, List.set_cons_zero, List.set_cons_succ]
    refine regTake (i := 16) (v := undef) rfl (by kernel_rfl) (by kernel_rfl) (by kernel_rfl) (fun _ _ _ h => h) (Or.inr ⟨by rfl, rfl⟩) (by assumption) ?_
    try simp only [Act.put, List.setIfInBounds_toArray, List.set_cons_zero, List.set_cons_succ]
    refine regTake (i := 17) (v := undef) rfl (by kernel_rfl) (by kernel_rfl) (by kernel_rfl) (fun _ _ _ h => h) (Or.inr ⟨by rfl, rfl⟩) (by assumption) ?_
    try simp only [Act.put, List.setIfInBounds_toArray, List.set_cons_zero, List.set_cons_succ]
    refine regTake (i := 18) (v := undef) rfl (by kernel_rfl) (by kernel_rfl) (by kernel_rfl) (fun _ _ _ h => h) (Or.inr ⟨by rfl, rfl⟩) (by assumption) ?_
    try simp only [Act.put, List.setIfInBounds_toArray, List.set_cons_zero, List.set_cons_succ]
    refine regTake (i := 19) (v := undef) rfl (by kernel_rfl) (by kernel_rfl) (by kernel_rfl) (fun _ _ _ h => h) (Or.inr ⟨by rfl, rfl⟩) (by assumption) ?_
    try simp only [Act.put, List.setIfInBounds_toArray, List.set_cons_zero, List.set_cons_succ]
    refine regTake (i := 20) (v := undef) rfl (by kernel_rfl) (by kernel_rfl) (by kernel_rfl) (fun _ _ _ h => h) (Or.inr ⟨by rfl, rfl⟩) (by assumption) ?_
    try simp only [Act.put, List.setIfInBounds_toArray, List.set_cons_zero, List.set_cons_succ]
    refine regTake (i := 21) (v := undef) rfl (by kernel_rfl) (by kernel_rfl) (by kernel_rfl) (fun _ _ _ h => h) (Or.inr ⟨by rfl, rfl⟩) (by assumption) ?_
    try simp only [Act.put, List.setIfInBounds_toArray, List.set_cons_zero, List.set_cons_succ]
    refine regTake (i := 22) (v := undef) rfl (by kernel_rfl) (by kernel_rfl) (by kernel_rfl) (fun _ _ _ h => h) (Or.inr ⟨by rfl, rfl⟩) (by assumption) ?_
    try simp only [Act.put, List.setIfInBounds_toArray, List.set_cons_zero, List.set_cons_succ]
    refine regTake (i := 23) (v := .bool false) rfl (by kernel_rfl) (by kernel_rfl) (by kernel_rfl) (fun _ _ _ h => h) (Or.inl ⟨by rfl, ?hyn5_23⟩) (by assumption) ?_
    case hyn5_23 => (intro w hSw; (try dsimp only at hSw); go_simp; (try with_reducible rfl))
    try simp only [Act.put, List.setIfInBounds_toArray, List.set_cons_zero, List.set_cons_succ]
    refine regTake (i := 24) (v := .bool false) rfl (by kernel_rfl) (by kernel_rfl) (by kernel_rfl) (fun _ _ _ h => h) (Or.inl ⟨by rfl, ?hyn5_24⟩) (by assumption) ?_
    case hyn5_24 => (intro w hSw; (try dsimp only at hSw); go_simp; (try with_reducible rfl))
    try simp only [Act.put, List.setIfInBounds_toArray, List.set_cons_zero, List.set_cons_succ]
    refine regTake (i := 25) (v := ?vn5_25) rfl (by kernel_rfl) (by kernel_rfl) (by kernel_rfl) (fun _ _ _ h => h) (Or.inl ⟨by rfl, ?hyn5_25⟩) (by assumption) ?_
    case hyn5_25 => (intro w hSw; (try dsimp only at hSw); go_simp; (try with_reducible rfl))
    try simp only [Act.put, List.setIfInBounds_toArray, List.set_cons_zero, List.set_cons_succ]
    refine wpAnyH_done (by kernel_rfl) ?_ _
    go_wp2_with fail
    go_ret
    exact ⟨ret_b rfl, below_trans hb0 (hk0)⟩
  · go_enter Try.func94, Try.ntmps94
    go_wp2_with fail
    refine wp_region_held_drew (S := (fun w' => Below (((w.alloc (Obj.cells #[.int .i64 5, .slice (some ⟨bf, of, none⟩) 2 cf] 25)).alloc (Obj.cells #[.int .i64 5, .slice (some ⟨bt, ot, none⟩) 2 ct] 25))).heap.size ((w.alloc (Obj.cells #[.int .i64 5, .slice (some ⟨bf, of, none⟩) 2 cf] 25)).alloc (Obj.cells #[.int .i64 5, .slice (some ⟨bt, ot, none⟩) 2 ct] 25)) w' ∧ w'.cell? ⟨w.heap.size, 0, none⟩ = some (.int .i64 5) ∧ w'.cell? ⟨w.heap.size, 1, none⟩ = some (.slice (some ⟨bf, of, none⟩) 2 cf) ∧ w'.cell? ⟨w.heap.size + 1, 0, none⟩ = some (.int .i64 5) ∧ w'.cell? ⟨w.heap.size + 1, 1, none⟩ = some (.slice (some ⟨bt, ot, none⟩) 2 ct) ∧ w'.cell? ⟨bf, of, none⟩ = some (.int .i64 k1) ∧ w'.cell? ⟨bf, of + 1, none⟩ = some (.slice a1 n1 c1) ∧ w'.cell? ⟨bf, of + 2, none⟩ = some (.int .i64 k2) ∧ w'.cell? ⟨bf, of + 2 + 1, none⟩ = some (.slice a2 n2 c2) ∧ w'.cell? ⟨bt, ot, none⟩ = some (.int .i64 k3) ∧ w'.cell? ⟨bt, ot + 1, none⟩ = some (.slice a3 n3 c3) ∧ w'.cell? ⟨bt, ot + 2, none⟩ = some (.int .i64 k4) ∧ w'.cell? ⟨bt, ot + 2 + 1, none⟩ = some (.slice a4 n4 c4))) (by kernel_rfl) ?_ (fun hS0 => ?_)
    · (refine (fun hB => ⟨hB, cell_keep x0 hB, cell_keep x1 hB, cell_keep x2 hB, cell_keep x3 hB, cell_keep d0 hB, cell_keep d1 hB, cell_keep d2 hB, cell_keep d3 hB, cell_keep e0 hB, cell_keep e1 hB, cell_keep e2 hB, cell_keep e3 hB⟩ : Below (((w.alloc (Obj.cells #[.int .i64 5, .slice (some ⟨bf, of, none⟩) 2 cf] 25)).alloc (Obj.cells #[.int .i64 5, .slice (some ⟨bt, ot, none⟩) 2 ct] 25))).heap.size ((w.alloc (Obj.cells #[.int .i64 5, .slice (some ⟨bf, of, none⟩) 2 cf] 25)).alloc (Obj.cells #[.int .i64 5, .slice (some ⟨bt, ot, none⟩) 2 ct] 25)) _ → _) ?_; exact below_drew _)
    refine regTake (i := 0) (v := ?vn6_0) rfl (by kernel_rfl) (by kernel_rfl) (by kernel_rfl) (fun _ _ _ h => h) (Or.inl ⟨by rfl, ?hyn6_0⟩) (by assumption) ?_
    case hyn6_0 => (intro w hSw; (try dsimp only at hSw); go_simp; (try with_reducible rfl))
    try simp only [Act.put, List.setIfInBounds_toArray, List.set_cons_zero, List.set_cons_succ]
    refine regTake (i := 1) (v := ?vn6_1) rfl (by kernel_rfl) (by kernel_rfl) (by kernel_rfl) (fun _ _ _ h => h) (Or.inl ⟨by rfl, ?hyn6_1⟩) (by assumption) ?_
    case hyn6_1 => (intro w hSw; (try dsimp only at hSw); go_simp; (try with_reducible rfl))
    try simp only [Act.put, List.setIfInBounds_toArray, List.set_cons_zero, List.set_cons_succ]
    refine regTake (i := 2) (v := ?vn6_2) rfl (by kernel_rfl) (by kernel_rfl) (by kernel_rfl) (fun _ _ _ h => h) (Or.inl ⟨by rfl, ?hyn6_2⟩) (by assumption) ?_
    case hyn6_2 => (intro w hSw; (try dsimp only at hSw); go_simp; (try with_reducible rfl))
    try simp only [Act.put, List.setIfInBounds_toArray, List.set_cons_zero, List.set_cons_succ]
    refine regTake (i := 3) (v := ?vn6_3) rfl (by kernel_rfl) (by kernel_rfl) (by kernel_rfl) (fun _ _ _ h => h) (Or.inl ⟨by rfl, ?hyn6_3⟩) (by assumption) ?_
    case hyn6_3 => (intro w hSw; (try dsimp only at hSw); go_simp; (try with_reducible rfl))
    try simp only [Act.put, List.setIfInBounds_toArray, List.set_cons_zero, List.set_cons_succ]
    refine regTake (i := 4) (v := ?vn6_4) rfl (by kernel_rfl) (by kernel_rfl) (by kernel_rfl) (fun _ _ _ h => h) (Or.inl ⟨by rfl, ?hyn6_4⟩) (by assumption) ?_
    case hyn6_4 => (intro w hSw; (try dsimp only at hSw); go_simp; (try with_reducible rfl))
    try simp only [Act.put, List.setIfInBounds_toArray, List.set_cons_zero, List.set_cons_succ]
    refine regTake (i := 5) (v := ?vn6_5) rfl (by kernel_rfl) (by kernel_rfl) (by kernel_rfl) (fun _ _ _ h => h) (Or.inl ⟨by rfl, ?hyn6_5⟩) (by assumption) ?_
    case hyn6_5 => (intro w hSw; (try dsimp only at hSw); go_simp; (try with_reducible rfl))
    try simp only [Act.put, List.setIfInBounds_toArray, List.set_cons_zero, List.set_cons_succ]
    refine regTake (i := 6) (v := ?vn6_6) rfl (by kernel_rfl) (by kernel_rfl) (by kernel_rfl) (fun _ _ _ h => h) (Or.inl ⟨by rfl, ?hyn6_6⟩) (by assumption) ?_
    case hyn6_6 => (intro w hSw; (try dsimp only at hSw); go_simp; (try with_reducible rfl))
    try simp only [Act.put, List.setIfInBounds_toArray, List.set_cons_zero, List.set_cons_succ]
    refine regTake (i := 7) (v := ?vn6_7) rfl (by kernel_rfl) (by kernel_rfl) (by kernel_rfl) (fun _ _ _ h => h) (Or.inl ⟨by rfl, ?hyn6_7⟩) (by assumption) ?_
    case hyn6_7 => (intro w hSw; (try dsimp only at hSw); go_simp; (try with_reducible rfl))
    try simp only [Act.put, List.setIfInBounds_toArray, List.set_cons_zero, List.set_cons_succ]
    refine regTake (i := 8) (v := ?vn6_8) rfl (by kernel_rfl) (by kernel_rfl) (by kernel_rfl) (fun _ _ _ h => h) (Or.inl ⟨by rfl, ?hyn6_8⟩) (by assumption) ?_
    case hyn6_8 => (intro w hSw; (try dsimp only at hSw); go_simp; (try with_reducible rfl))
    try simp only [Act.put, List.setIfInBounds_toArray, List.set_cons_zero, List.set_cons_succ]
    refine regTake (i := 9) (v := ?vn6_9) rfl (by kernel_rfl) (by kernel_rfl) (by kernel_rfl) (fun _ _ _ h => h) (Or.inl ⟨by rfl, ?hyn6_9⟩) (by assumption) ?_
    case hyn6_9 => (intro w hSw; (try dsimp only at hSw); go_simp; (try with_reducible rfl))
    try simp only [Act.put, List.setIfInBounds_toArray, List.set_cons_zero, List.set_cons_succ]
    refine regTake (i := 10) (v := ?vn6_10) rfl (by kernel_rfl) (by kernel_rfl) (by kernel_rfl) (fun _ _ _ h => h) (Or.inl ⟨by rfl, ?hyn6_10⟩) (by assumption) ?_
    case hyn6_10 => (intro w hSw; (try dsimp only at hSw); go_simp; (try with_reducible rfl))
    try simp only [Act.put, List.setIfInBounds_toArray, List.set_cons_zero, List.set_cons_succ]
    refine regTake (i := 11) (v := ?vn6_11) rfl (by kernel_rfl) (by kernel_rfl) (by kernel_rfl) (fun _ _ _ h => h) (Or.inl ⟨by rfl, ?hyn6_11⟩) (by assumption) ?_
    case hyn6_11 => (intro w hSw; (try dsimp only at hSw); go_simp; (try with_reducible rfl))
    try simp only [Act.put, List.setIfInBounds_toArray, List.set_cons_zero, List.set_cons_succ]
    refine wpAnyH_ready (rs := [12]) (by kernel_rfl) (by simp) ?_
    refine regCons rfl (fun K hK => ?_)
    go_simp
    refine (HIH.out x x' _ _ _ _ _ HP.out.1 HP.out.2.2.1 (H.out.1.below (below_drew _)) (H.out.2.2.1.below (below_drew _))).mono ?_
    rw [HA.out]
    rintro e w1 ⟨rfl, hb1⟩
    have hk0 := below_trans (below_drew ((w.alloc (Obj.cells #[.int .i64 5, .slice (some ⟨bf, of, none⟩) 2 cf] 25)).alloc (Obj.cells #[.int .i64 5, .slice (some ⟨bt, ot, none⟩) 2 ct] 25))) hb1
    refine hK.out _ _ ?_ (fun hS1 => ?_)
    · (refine (fun hB => ⟨hB, cell_keep x0 hB, cell_keep x1 hB, cell_keep x2 hB, cell_keep x3 hB, cell_keep d0 hB, cell_keep d1 hB, cell_keep d2 hB, cell_keep d3 hB, cell_keep e0 hB, cell_keep e1 hB, cell_keep e2 hB, cell_keep e3 hB⟩ : Below (((w.alloc (Obj.cells #[.int .i64 5, .slice (some ⟨bf, of, none⟩) 2 cf] 25)).alloc (Obj.cells #[.int .i64 5, .slice (some ⟨bt, ot, none⟩) 2 ct] 25))).heap.size ((w.alloc (Obj.cells #[.int .i64 5, .slice (some ⟨bf, of, none⟩) 2 cf] 25)).alloc (Obj.cells #[.int .i64 5, .slice (some ⟨bt, ot, none⟩) 2 ct] 25)) _ → _) ?_; exact hk0)
    clear hK K hS0
    try simp only [Act.put, List.setIfInBounds_toArray, List.set_cons_zero, List.set_cons_succ]
    refine regTake (i := 13) (v := ?vn6_13) rfl (by kernel_rfl) (by kernel_rfl) (by kernel_rfl) (fun _ _ _ h => h) (Or.inl ⟨by rfl, ?hyn6_13⟩) (by assumption) ?_
    case hyn6_13 => (intro w hSw; (try dsimp only at hSw); go_simp; (try with_reducible rfl))
    try simp only [Act.put, List.setIfInBounds_toArray, List.set_cons_zero, List.set_cons_succ]
    refine regTake (i := 14) (v := ?vn6_14) rfl (by kernel_rfl) (by kernel_rfl) (by kernel_rfl) (fun _ _ _ h => h) (Or.inl ⟨by rfl, ?hyn6_14⟩) (by assumption) ?_
    case hyn6_14 => (intro w hSw; (try dsimp only at hSw); go_simp; (try with_reducible rfl))
    try simp only [Act.put, List.setIfInBounds_toArray, List.set_cons_zero, List.set_cons_succ]
    refine regTake (i := 15) (v := ?vn6_15) rfl (by kernel_rfl) (by kernel_rfl) (by kernel_rfl) (fun _ _ _ h => h) (Or.inl ⟨by rfl, ?hyn6_15⟩) (by assumption) ?_
    case hyn6_15 => (intro w hSw; (try dsimp only at hSw); go_simp; (try with_reducible rfl))
    try simp only [Act.put, List.setIfInBounds_toArray, List.set_cons_zero, List.set_cons_succ]
    refine regTake (i := 16) (v := ?vn6_16) rfl (by kernel_rfl) (by kernel_rfl) (by kernel_rfl) (fun _ _ _ h => h) (Or.inl ⟨by rfl, ?hyn6_16⟩) (by assumption) ?_
    case hyn6_16 => (intro w hSw; (try dsimp only at hSw); go_simp; (try with_reducible rfl))
    try simp only [Act.put, List.setIfInBounds_toArray, List.set_cons_zero, List.set_cons_succ]
    refine regTake (i := 17) (v := ?vn6_17) rfl (by kernel_rfl) (by kernel_rfl) (by kernel_rfl) (fun _ _ _ h => h) (Or.inl ⟨by rfl, ?hyn6_17⟩) (by assumption) ?_
    case hyn6_17 => (intro w hSw; (try dsimp only at hSw); go_simp; (try with_reducible rfl))
    try simp only [Act.put, List.setIfInBounds_toArray, List.set_cons_zero, List.set_cons_succ]
    refine regTake (i := 18) (v := ?vn6_18) rfl (by kernel_rfl) (by kernel_rfl) (by kernel_rfl) (fun _ _ _ h => h) (Or.inl ⟨by rfl, ?hyn6_18⟩) (by assumption) ?_
    case hyn6_18 => (intro w hSw; (try dsimp only at hSw); go_simp; (try with_reducible rfl))
    try simp only [Act.put, List.setIfInBounds_toArray, List.set_cons_zero, List.set_cons_succ]
    refine regTake (i := 19) (v := ?vn6_19) rfl (by kernel_rfl) (by kernel_rfl) (by kernel_rfl) (fun _ _ _ h => h) (Or.inl ⟨by rfl, ?hyn6_19⟩) (by assumption) ?_
    case hyn6_19 => (intro w hSw; (try dsimp only at hSw); go_simp; (try with_reducible rfl))
    try simp only [Act.put, List.setIfInBounds_toArray, List.set_cons_zero, List.set_cons_succ]
    refine regTake (i := 20) (v := ?vn6_20) rfl (by kernel_rfl) (by kernel_rfl) (by kernel_rfl) (fun _ _ _ h => h) (Or.inl ⟨by rfl, ?hyn6_20⟩) (by assumption) ?_
    case hyn6_20 => (intro w hSw; (try dsimp only at hSw); go_simp; (try with_reducible rfl))
    try simp only [Act.put, List.setIfInBounds_toArray, List.set_cons_zero, List.set_cons_succ]
    refine regTake (i := 21) (v := ?vn6_21) rfl (by kernel_rfl) (by kernel_rfl) (by kernel_rfl) (fun _ _ _ h => h) (Or.inl ⟨by rfl, ?hyn6_21⟩) (by assumption) ?_
    case hyn6_21 => (intro w hSw; (try dsimp only at hSw); go_simp; (try with_reducible rfl))
    try simp only [Act.put, List.setIfInBounds_toArray, List.set_cons_zero, List.set_cons_succ]
    refine wpAnyH_ready (rs := [22]) (by kernel_rfl) (by simp) ?_
    refine regCons rfl (fun K hK => ?_)
    go_simp
    refine (HIH.out y y' _ _ _ _ _ HP.out.2.1 HP.out.2.2.2 (H.out.2.1.below hk0) (H.out.2.2.2.below hk0)).mono ?_
    rw [HB.out]
    rintro e w2 ⟨rfl, hb2⟩
    have hk1 := below_trans hk0 hb2
    refine hK.out _ _ ?_ (fun hS2 => ?_)
    · (refine (fun hB => ⟨hB, cell_keep x0 hB, cell_keep x1 hB, cell_keep x2 hB, cell_keep x3 hB, cell_keep d0 hB, cell_keep d1 hB, cell_keep d2 hB, cell_keep d3 hB, cell_keep e0 hB, cell_keep e1 hB, cell_keep e2 hB, cell_keep e3 hB⟩ : Below (((w.alloc (Obj.cells #[.int .i64 5, .slice (some ⟨bf, of, none⟩) 2 cf] 25)).alloc (Obj.cells #[.int .i64 5, .slice (some ⟨bt, ot, none⟩) 2 ct] 25))).heap.size ((w.alloc (Obj.cells #[.int .i64 5, .slice (some ⟨bf, of, none⟩) 2 cf] 25)).alloc (Obj.cells #[.int .i64 5, .slice (some ⟨bt, ot, none⟩) 2 ct] 25)) _ → _) ?_; exact hk1)
    clear hK K hS1
    try simp only [Act.put, List.setIfInBounds_toArray, List.set_cons_zero, List.set_cons_succ]
    refine regTake (i := 23) (v := .bool B) rfl (by kernel_rfl) (by kernel_rfl) (by kernel_rfl) (fun _ _ _ h => h) (Or.inl ⟨by rfl, ?hyn6_23⟩) (by assumption) ?_
    case hyn6_23 => (intro w hSw; (try dsimp only at hSw); go_simp; (try with_reducible rfl))
    try simp only [Act.put, List.setIfInBounds_toArray, List.set_cons_zero, List.set_cons_succ]
    refine regTake (i := 24) (v := .bool B) rfl (by kernel_rfl) (by kernel_rfl) (by kernel_rfl) (fun _ _ _ h => h) (Or.inl ⟨by rfl, ?hyn6_24⟩) (by assumption) ?_
    case hyn6_24 => (intro w hSw; (try dsimp only at hSw); go_simp; (try with_reducible rfl))
    try simp only [Act.put, List.setIfInBounds_toArray, List.set_cons_zero, List.set_cons_succ]
    refine regTake (i := 25) (v := ?vn6_25) rfl (by kernel_rfl) (by kernel_rfl) (by kernel_rfl) (fun _ _ _ h => h) (Or.inl ⟨by rfl, ?hyn6_25⟩) (by assumption) ?_
    case hyn6_25 => (intro w hSw; (try dsimp only at hSw); go_simp; (try with_reducible rfl))
    try simp only [Act.put, List.setIfInBounds_toArray, List.set_cons_zero, List.set_cons_succ]
    refine wpAnyH_done (by kernel_rfl) ?_ _
    go_wp2_with fail
    go_ret
    exact ⟨ret_b rfl, below_trans hb0 (hk1)⟩

theorem pos8_same (d : Nat) (ih : PoC d) (ihn : NeC d) (a b : Ty) (h : SameK d a b) (v1 v2 : Value) (f1 f2 : List Nat) (w : World) (h1 : a.At w v1 f1) (h2 : b.At w v2 f2) :
    Calls Try.prog 94 #[v1, v2] w (fun e w' => e = .returned (.bool (subS (sub d) 1 (kindT a) (kidsT8 a) (kidsT8 b))) ∧ Below w.heap.size w w') := by
  cases h with
  | leaf k hk => exact pos_leaf k hk v1 v2 f1 f2 w h1 h2
  | two k x y x' y' hk hx hy hx' hy' =>
    rcases hk with rfl | rfl
    · exact pos_two4 d ih ihn x y x' y' v1 v2 f1 f2 w hx hy hx' hy' h1 h2
    · exact pos_two5 d ih x y x' y' v1 v2 f1 f2 w hx hy hx' hy' h1 h2

set_option maxRecDepth 100000 in
set_option maxHeartbeats 2000000 in
theorem neg_leaf (k : Int) (hk : k = 2 ∨ k = 3) (v1 v2 : Value) (f1 f2 : List Nat) (w : World) (h1 : (Ty.mk k []).At w v1 f1) (h2 : (Ty.mk k []).At w v2 f2) :
    Calls Try.prog 95 #[v1, v2] w (fun e w' => e = .returned (.bool (true)) ∧ Below w.heap.size w w') := by
  obtain ⟨s1, rfl, hs1⟩ := Ty.at_mk.1 h1
  obtain ⟨s2, rfl, hs2⟩ := Ty.at_mk.1 h2
  obtain ⟨a1, c1, rfl⟩ := hs1.none8
  obtain ⟨a2, c2, rfl⟩ := hs2.none8
  clear h1 h2 hs1 hs2
  rcases hk with rfl | rfl
  · have hb0 : Below w.heap.size w ((w.alloc (Obj.cells #[.int .i64 2, .slice a1 0 c1] 25)).alloc (Obj.cells #[.int .i64 2, .slice a2 0 c2] 25)) := ((Below.refl _ _).alloc (Nat.le_refl _) _).alloc (by simp) _
    obtain ⟨x0, x1, x2, x3⟩ := box_cells2 (Below.refl (((w.alloc (Obj.cells #[.int .i64 2, .slice a1 0 c1] 25)).alloc (Obj.cells #[.int .i64 2, .slice a2 0 c2] 25))).heap.size ((w.alloc (Obj.cells #[.int .i64 2, .slice a1 0 c1] 25)).alloc (Obj.cells #[.int .i64 2, .slice a2 0 c2] 25)))
    go_enter Try.func95, Try.ntmps95
    go_wp2_with fail
    refine wp_region_held_drew (S := (fun w' => Below (((w.alloc (Obj.cells #[.int .i64 2, .slice a1 0 c1] 25)).alloc (Obj.cells #[.int .i64 2, .slice a2 0 c2] 25))).heap.size ((w.alloc (Obj.cells #[.int .i64 2, .slice a1 0 c1] 25)).alloc (Obj.cells #[.int .i64 2, .slice a2 0 c2] 25)) w' ∧ w'.cell? ⟨w.heap.size, 0, none⟩ = some (.int .i64 2) ∧ w'.cell? ⟨w.heap.size, 1, none⟩ = some (.slice a1 0 c1) ∧ w'.cell? ⟨w.heap.size + 1, 0, none⟩ = some (.int .i64 2) ∧ w'.cell? ⟨w.heap.size + 1, 1, none⟩ = some (.slice a2 0 c2))) (by kernel_rfl) ?_ (fun hS0 => ?_)
    · (refine (fun hB => ⟨hB, cell_keep x0 hB, cell_keep x1 hB, cell_keep x2 hB, cell_keep x3 hB⟩ : Below (((w.alloc (Obj.cells #[.int .i64 2, .slice a1 0 c1] 25)).alloc (Obj.cells #[.int .i64 2, .slice a2 0 c2] 25))).heap.size ((w.alloc (Obj.cells #[.int .i64 2, .slice a1 0 c1] 25)).alloc (Obj.cells #[.int .i64 2, .slice a2 0 c2] 25)) _ → _) ?_; exact below_drew _)
    refine regTake (i := 0) (v := ?vn7_0) rfl (by kernel_rfl) (by kernel_rfl) (by kernel_rfl) (fun _ _ _ h => h) (Or.inl ⟨by rfl, ?hyn7_0⟩) (by assumption) ?_
    case hyn7_0 => (intro w hSw; (try dsimp only at hSw); go_simp; (try with_reducible rfl))
    try simp only [Act.put, List.setIfInBounds_toArray, List.set_cons_zero, List.set_cons_succ]
    refine regTake (i := 1) (v := ?vn7_1) rfl (by kernel_rfl) (by kernel_rfl) (by kernel_rfl) (fun _ _ _ h => h) (Or.inl ⟨by rfl, ?hyn7_1⟩) (by assumption) ?_
    case hyn7_1 => (intro w hSw; (try dsimp only at hSw); go_simp; (try with_reducible rfl))
    try simp only [Act.put, List.setIfInBounds_toArray, List.set_cons_zero, List.set_cons_succ]
    refine regTake (i := 2) (v := ?vn7_2) rfl (by kernel_rfl) (by kernel_rfl) (by kernel_rfl) (fun _ _ _ h => h) (Or.inl ⟨by rfl, ?hyn7_2⟩) (by assumption) ?_
    case hyn7_2 => (intro w hSw; (try dsimp only at hSw); go_simp; (try with_reducible rfl))
    try simp only [Act.put, List.setIfInBounds_toArray, List.set_cons_zero, List.set_cons_succ]
    refine regTake (i := 3) (v := ?vn7_3) rfl (by kernel_rfl) (by kernel_rfl) (by kernel_rfl) (fun _ _ _ h => h) (Or.inl ⟨by rfl, ?hyn7_3⟩) (by assumption) ?_
    case hyn7_3 => (intro w hSw; (try dsimp only at hSw); go_simp; (try with_reducible rfl))
    try simp only [Act.put, List.setIfInBounds_toArray, List.set_cons_zero, List.set_cons_succ]
    refine regTake (i := 4) (v := undef) rfl (by kernel_rfl) (by kernel_rfl) (by kernel_rfl) (fun _ _ _ h => h) (Or.inr ⟨by rfl, rfl⟩) (by assumption) ?_
    try simp only [Act.put, List.setIfInBounds_toArray, List.set_cons_zero, List.set_cons_succ]
    refine regTake (i := 5) (v := undef) rfl (by kernel_rfl) (by kernel_rfl) (by kernel_rfl) (fun _ _ _ h => h) (Or.inr ⟨by rfl, rfl⟩) (by assumption) ?_
    try simp only [Act.put, List.setIfInBounds_toArray, List.set_cons_zero, List.set_cons_succ]
    refine regTake (i := 6) (v := undef) rfl (by kernel_rfl) (by kernel_rfl) (by kernel_rfl) (fun _ _ _ h => h) (Or.inr ⟨by rfl, rfl⟩) (by assumption) ?_
    try simp only [Act.put, List.setIfInBounds_toArray, List.set_cons_zero, List.set_cons_succ]
    refine regTake (i := 7) (v := undef) rfl (by kernel_rfl) (by kernel_rfl) (by kernel_rfl) (fun _ _ _ h => h) (Or.inr ⟨by rfl, rfl⟩) (by assumption) ?_
    try simp only [Act.put, List.setIfInBounds_toArray, List.set_cons_zero, List.set_cons_succ]
    refine regTake (i := 8) (v := undef) rfl (by kernel_rfl) (by kernel_rfl) (by kernel_rfl) (fun _ _ _ h => h) (Or.inr ⟨by rfl, rfl⟩) (by assumption) ?_
    try simp only [Act.put, List.setIfInBounds_toArray, List.set_cons_zero, List.set_cons_succ]
    refine regTake (i := 9) (v := undef) rfl (by kernel_rfl) (by kernel_rfl) (by kernel_rfl) (fun _ _ _ h => h) (Or.inr ⟨by rfl, rfl⟩) (by assumption) ?_
    try simp only [Act.put, List.setIfInBounds_toArray, List.set_cons_zero, List.set_cons_succ]
    refine regTake (i := 10) (v := undef) rfl (by kernel_rfl) (by kernel_rfl) (by kernel_rfl) (fun _ _ _ h => h) (Or.inr ⟨by rfl, rfl⟩) (by assumption) ?_
    try simp only [Act.put, List.setIfInBounds_toArray, List.set_cons_zero, List.set_cons_succ]
    refine regTake (i := 11) (v := undef) rfl (by kernel_rfl) (by kernel_rfl) (by kernel_rfl) (fun _ _ _ h => h) (Or.inr ⟨by rfl, rfl⟩) (by assumption) ?_
    try simp only [Act.put, List.setIfInBounds_toArray, List.set_cons_zero, List.set_cons_succ]
    refine regTake (i := 12) (v := undef) rfl (by kernel_rfl) (by kernel_rfl) (by kernel_rfl) (fun _ _ _ h => h) (Or.inr ⟨by rfl, rfl⟩) (by assumption) ?_
    try simp only [Act.put, List.setIfInBounds_toArray, List.set_cons_zero, List.set_cons_succ]
    refine regTake (i := 13) (v := undef) rfl (by kernel_rfl) (by kernel_rfl) (by kernel_rfl) (fun _ _ _ h => h) (Or.inr ⟨by rfl, rfl⟩) (by assumption) ?_
    try simp only [Act.put, List.setIfInBounds_toArray, List.set_cons_zero, List.set_cons_succ]
    refine regTake (i := 14) (v := undef) rfl (by kernel_rfl) (by kernel_rfl) (by kernel_rfl) (fun _ _ _ h => h) (Or.inr ⟨by rfl, rfl⟩) (by assumption) ?_
    try simp only [Act.put, List.setIfInBounds_toArray, List.set_cons_zero, List.set_cons_succ]
    refine regTake (i := 15) (v := undef) rfl (by kernel_rfl) (by kernel_rfl) (by kernel_rfl) (fun _ _ _ h => h) (Or.inr ⟨by rfl, rfl⟩) (by assumption) ?_
    try simp only [Act.put, List.setIfInBounds_toArray, List.set_cons_zero, List.set_cons_succ]
    refine regTake (i := 16) (v := undef) rfl (by kernel_rfl) (by kernel_rfl) (by kernel_rfl) (fun _ _ _ h => h) (Or.inr ⟨by rfl, rfl⟩) (by assumption) ?_
    try simp only [Act.put, List.setIfInBounds_toArray, List.set_cons_zero, List.set_cons_succ]
    refine regTake (i := 17) (v := undef) rfl (by kernel_rfl) (by kernel_rfl) (by kernel_rfl) (fun _ _ _ h => h) (Or.inr ⟨by rfl, rfl⟩) (by assumption) ?_
    try simp only [Act.put, List.setIfInBounds_toArray, List.set_cons_zero, List.set_cons_succ]
    refine regTake (i := 18) (v := undef) rfl (by kernel_rfl) (by kernel_rfl) (by kernel_rfl) (fun _ _ _ h => h) (Or.inr ⟨by rfl, rfl⟩) (by assumption) ?_
    try simp only [Act.put, List.setIfInBounds_toArray, List.set_cons_zero, List.set_cons_succ]
    refine regTake (i := 19) (v := undef) rfl (by kernel_rfl) (by kernel_rfl) (by kernel_rfl) (fun _ _ _ h => h) (Or.inr ⟨by rfl, rfl⟩) (by assumption) ?_
    try simp only [Act.put, List.setIfInBounds_toArray, List.set_cons_zero, List.set_cons_succ]
    refine regTake (i := 20) (v := undef) rfl (by kernel_rfl) (by kernel_rfl) (by kernel_rfl) (fun _ _ _ h => h) (Or.inr ⟨by rfl, rfl⟩) (by assumption) ?_
    try simp only [Act.put, List.setIfInBounds_toArray, List.set_cons_zero, List.set_cons_succ]
    refine regTake (i := 21) (v := undef) rfl (by kernel_rfl) (by kernel_rfl) (by kernel_rfl) (fun _ _ _ h => h) (Or.inr ⟨by rfl, rfl⟩) (by assumption) ?_
    try simp only [Act.put, List.setIfInBounds_toArray, List.set_cons_zero, List.set_cons_succ]
    refine regTake (i := 22) (v := undef) rfl (by kernel_rfl) (by kernel_rfl) (by kernel_rfl) (fun _ _ _ h => h) (Or.inr ⟨by rfl, rfl⟩) (by assumption) ?_
    try simp only [Act.put, List.setIfInBounds_toArray, List.set_cons_zero, List.set_cons_succ]
    refine regTake (i := 23) (v := undef) rfl (by kernel_rfl) (by kernel_rfl) (by kernel_rfl) (fun _ _ _ h => h) (Or.inr ⟨by rfl, rfl⟩) (by assumption) ?_
    try simp only [Act.put, List.setIfInBounds_toArray, List.set_cons_zero, List.set_cons_succ]
    refine regTake (i := 24) (v := .bool true) rfl (by kernel_rfl) (by kernel_rfl) (by kernel_rfl) (fun _ _ _ h => h) (Or.inl ⟨by rfl, ?hyn7_24⟩) (by assumption) ?_
    case hyn7_24 => (intro w hSw; (try dsimp only at hSw); go_simp; (try with_reducible rfl))
    try simp only [Act.put, List.setIfInBounds_toArray, List.set_cons_zero, List.set_cons_succ]
    refine regTake (i := 25) (v := ?vn7_25) rfl (by kernel_rfl) (by kernel_rfl) (by kernel_rfl) (fun _ _ _ h => h) (Or.inl ⟨by rfl, ?hyn7_25⟩) (by assumption) ?_
    case hyn7_25 => (intro w hSw; (try dsimp only at hSw); go_simp; (try with_reducible rfl))
    try simp only [Act.put, List.setIfInBounds_toArray, List.set_cons_zero, List.set_cons_succ]
    refine wpAnyH_done (by kernel_rfl) ?_ _
    go_wp2_with fail
    go_ret
    exact ⟨ret_b rfl, below_trans hb0 (below_drew _)⟩
  · have hb0 : Below w.heap.size w ((w.alloc (Obj.cells #[.int .i64 3, .slice a1 0 c1] 25)).alloc (Obj.cells #[.int .i64 3, .slice a2 0 c2] 25)) := ((Below.refl _ _).alloc (Nat.le_refl _) _).alloc (by simp) _
    obtain ⟨x0, x1, x2, x3⟩ := box_cells2 (Below.refl (((w.alloc (Obj.cells #[.int .i64 3, .slice a1 0 c1] 25)).alloc (Obj.cells #[.int .i64 3, .slice a2 0 c2] 25))).heap.size ((w.alloc (Obj.cells #[.int .i64 3, .slice a1 0 c1] 25)).alloc (Obj.cells #[.int .i64 3, .slice a2 0 c2] 25)))
    go_enter Try.func95, Try.ntmps95
    go_wp2_with fail
    refine wp_region_held_drew (S := (fun w' => Below (((w.alloc (Obj.cells #[.int .i64 3, .slice a1 0 c1] 25)).alloc (Obj.cells #[.int .i64 3, .slice a2 0 c2] 25))).heap.size ((w.alloc (Obj.cells #[.int .i64 3, .slice a1 0 c1] 25)).alloc (Obj.cells #[.int .i64 3, .slice a2 0 c2] 25)) w' ∧ w'.cell? ⟨w.heap.size, 0, none⟩ = some (.int .i64 3) ∧ w'.cell? ⟨w.heap.size, 1, none⟩ = some (.slice a1 0 c1) ∧ w'.cell? ⟨w.heap.size + 1, 0, none⟩ = some (.int .i64 3) ∧ w'.cell? ⟨w.heap.size + 1, 1, none⟩ = some (.slice a2 0 c2))) (by kernel_rfl) ?_ (fun hS0 => ?_)
    · (refine (fun hB => ⟨hB, cell_keep x0 hB, cell_keep x1 hB, cell_keep x2 hB, cell_keep x3 hB⟩ : Below (((w.alloc (Obj.cells #[.int .i64 3, .slice a1 0 c1] 25)).alloc (Obj.cells #[.int .i64 3, .slice a2 0 c2] 25))).heap.size ((w.alloc (Obj.cells #[.int .i64 3, .slice a1 0 c1] 25)).alloc (Obj.cells #[.int .i64 3, .slice a2 0 c2] 25)) _ → _) ?_; exact below_drew _)
    refine regTake (i := 0) (v := ?vn8_0) rfl (by kernel_rfl) (by kernel_rfl) (by kernel_rfl) (fun _ _ _ h => h) (Or.inl ⟨by rfl, ?hyn8_0⟩) (by assumption) ?_
    case hyn8_0 => (intro w hSw; (try dsimp only at hSw); go_simp; (try with_reducible rfl))
    try simp only [Act.put, List.setIfInBounds_toArray, List.set_cons_zero, List.set_cons_succ]
    refine regTake (i := 1) (v := ?vn8_1) rfl (by kernel_rfl) (by kernel_rfl) (by kernel_rfl) (fun _ _ _ h => h) (Or.inl ⟨by rfl, ?hyn8_1⟩) (by assumption) ?_
    case hyn8_1 => (intro w hSw; (try dsimp only at hSw); go_simp; (try with_reducible rfl))
    try simp only [Act.put, List.setIfInBounds_toArray, List.set_cons_zero, List.set_cons_succ]
    refine regTake (i := 2) (v := ?vn8_2) rfl (by kernel_rfl) (by kernel_rfl) (by kernel_rfl) (fun _ _ _ h => h) (Or.inl ⟨by rfl, ?hyn8_2⟩) (by assumption) ?_
    case hyn8_2 => (intro w hSw; (try dsimp only at hSw); go_simp; (try with_reducible rfl))
    try simp only [Act.put, List.setIfInBounds_toArray, List.set_cons_zero, List.set_cons_succ]
    refine regTake (i := 3) (v := ?vn8_3) rfl (by kernel_rfl) (by kernel_rfl) (by kernel_rfl) (fun _ _ _ h => h) (Or.inl ⟨by rfl, ?hyn8_3⟩) (by assumption) ?_
    case hyn8_3 => (intro w hSw; (try dsimp only at hSw); go_simp; (try with_reducible rfl))
    try simp only [Act.put, List.setIfInBounds_toArray, List.set_cons_zero, List.set_cons_succ]
    refine regTake (i := 4) (v := undef) rfl (by kernel_rfl) (by kernel_rfl) (by kernel_rfl) (fun _ _ _ h => h) (Or.inr ⟨by rfl, rfl⟩) (by assumption) ?_
    try simp only [Act.put, List.setIfInBounds_toArray, List.set_cons_zero, List.set_cons_succ]
    refine regTake (i := 5) (v := undef) rfl (by kernel_rfl) (by kernel_rfl) (by kernel_rfl) (fun _ _ _ h => h) (Or.inr ⟨by rfl, rfl⟩) (by assumption) ?_
    try simp only [Act.put, List.setIfInBounds_toArray, List.set_cons_zero, List.set_cons_succ]
    refine regTake (i := 6) (v := undef) rfl (by kernel_rfl) (by kernel_rfl) (by kernel_rfl) (fun _ _ _ h => h) (Or.inr ⟨by rfl, rfl⟩) (by assumption) ?_
    try simp only [Act.put, List.setIfInBounds_toArray, List.set_cons_zero, List.set_cons_succ]
    refine regTake (i := 7) (v := undef) rfl (by kernel_rfl) (by kernel_rfl) (by kernel_rfl) (fun _ _ _ h => h) (Or.inr ⟨by rfl, rfl⟩) (by assumption) ?_
    try simp only [Act.put, List.setIfInBounds_toArray, List.set_cons_zero, List.set_cons_succ]
    refine regTake (i := 8) (v := undef) rfl (by kernel_rfl) (by kernel_rfl) (by kernel_rfl) (fun _ _ _ h => h) (Or.inr ⟨by rfl, rfl⟩) (by assumption) ?_
    try simp only [Act.put, List.setIfInBounds_toArray, List.set_cons_zero, List.set_cons_succ]
    refine regTake (i := 9) (v := undef) rfl (by kernel_rfl) (by kernel_rfl) (by kernel_rfl) (fun _ _ _ h => h) (Or.inr ⟨by rfl, rfl⟩) (by assumption) ?_
    try simp only [Act.put, List.setIfInBounds_toArray, List.set_cons_zero, List.set_cons_succ]
    refine regTake (i := 10) (v := undef) rfl (by kernel_rfl) (by kernel_rfl) (by kernel_rfl) (fun _ _ _ h => h) (Or.inr ⟨by rfl, rfl⟩) (by assumption) ?_
    try simp only [Act.put, List.setIfInBounds_toArray, List.set_cons_zero, List.set_cons_succ]
    refine regTake (i := 11) (v := undef) rfl (by kernel_rfl) (by kernel_rfl) (by kernel_rfl) (fun _ _ _ h => h) (Or.inr ⟨by rfl, rfl⟩) (by assumption) ?_
    try simp only [Act.put, List.setIfInBounds_toArray, List.set_cons_zero, List.set_cons_succ]
    refine regTake (i := 12) (v := undef) rfl (by kernel_rfl) (by kernel_rfl) (by kernel_rfl) (fun _ _ _ h => h) (Or.inr ⟨by rfl, rfl⟩) (by assumption) ?_
    try simp only [Act.put, List.setIfInBounds_toArray, List.set_cons_zero, List.set_cons_succ]
    refine regTake (i := 13) (v := undef) rfl (by kernel_rfl) (by kernel_rfl) (by kernel_rfl) (fun _ _ _ h => h) (Or.inr ⟨by rfl, rfl⟩) (by assumption) ?_
    try simp only [Act.put, List.setIfInBounds_toArray, List.set_cons_zero, List.set_cons_succ]
    refine regTake (i := 14) (v := undef) rfl (by kernel_rfl) (by kernel_rfl) (by kernel_rfl) (fun _ _ _ h => h) (Or.inr ⟨by rfl, rfl⟩) (by assumption) ?_
    try simp only [Act.put, List.setIfInBounds_toArray, List.set_cons_zero, List.set_cons_succ]
    refine regTake (i := 15) (v := undef) rfl (by kernel_rfl) (by kernel_rfl) (by kernel_rfl) (fun _ _ _ h => h) (Or.inr ⟨by rfl, rfl⟩) (by assumption) ?_
    try simp only [Act.put, List.setIfInBounds_toArray, List.set_cons_zero, List.set_cons_succ]
    refine regTake (i := 16) (v := undef) rfl (by kernel_rfl) (by kernel_rfl) (by kernel_rfl) (fun _ _ _ h => h) (Or.inr ⟨by rfl, rfl⟩) (by assumption) ?_
    try simp only [Act.put, List.setIfInBounds_toArray, List.set_cons_zero, List.set_cons_succ]
    refine regTake (i := 17) (v := undef) rfl (by kernel_rfl) (by kernel_rfl) (by kernel_rfl) (fun _ _ _ h => h) (Or.inr ⟨by rfl, rfl⟩) (by assumption) ?_
    try simp only [Act.put, List.setIfInBounds_toArray, List.set_cons_zero, List.set_cons_succ]
    refine regTake (i := 18) (v := undef) rfl (by kernel_rfl) (by kernel_rfl) (by kernel_rfl) (fun _ _ _ h => h) (Or.inr ⟨by rfl, rfl⟩) (by assumption) ?_
    try simp only [Act.put, List.setIfInBounds_toArray, List.set_cons_zero, List.set_cons_succ]
    refine regTake (i := 19) (v := undef) rfl (by kernel_rfl) (by kernel_rfl) (by kernel_rfl) (fun _ _ _ h => h) (Or.inr ⟨by rfl, rfl⟩) (by assumption) ?_
    try simp only [Act.put, List.setIfInBounds_toArray, List.set_cons_zero, List.set_cons_succ]
    refine regTake (i := 20) (v := undef) rfl (by kernel_rfl) (by kernel_rfl) (by kernel_rfl) (fun _ _ _ h => h) (Or.inr ⟨by rfl, rfl⟩) (by assumption) ?_
    try simp only [Act.put, List.setIfInBounds_toArray, List.set_cons_zero, List.set_cons_succ]
    refine regTake (i := 21) (v := undef) rfl (by kernel_rfl) (by kernel_rfl) (by kernel_rfl) (fun _ _ _ h => h) (Or.inr ⟨by rfl, rfl⟩) (by assumption) ?_
    try simp only [Act.put, List.setIfInBounds_toArray, List.set_cons_zero, List.set_cons_succ]
    refine regTake (i := 22) (v := undef) rfl (by kernel_rfl) (by kernel_rfl) (by kernel_rfl) (fun _ _ _ h => h) (Or.inr ⟨by rfl, rfl⟩) (by assumption) ?_
    try simp only [Act.put, List.setIfInBounds_toArray, List.set_cons_zero, List.set_cons_succ]
    refine regTake (i := 23) (v := undef) rfl (by kernel_rfl) (by kernel_rfl) (by kernel_rfl) (fun _ _ _ h => h) (Or.inr ⟨by rfl, rfl⟩) (by assumption) ?_
    try simp only [Act.put, List.setIfInBounds_toArray, List.set_cons_zero, List.set_cons_succ]
    refine regTake (i := 24) (v := .bool true) rfl (by kernel_rfl) (by kernel_rfl) (by kernel_rfl) (fun _ _ _ h => h) (Or.inl ⟨by rfl, ?hyn8_24⟩) (by assumption) ?_
    case hyn8_24 => (intro w hSw; (try dsimp only at hSw); go_simp; (try with_reducible rfl))
    try simp only [Act.put, List.setIfInBounds_toArray, List.set_cons_zero, List.set_cons_succ]
    refine regTake (i := 25) (v := ?vn8_25) rfl (by kernel_rfl) (by kernel_rfl) (by kernel_rfl) (fun _ _ _ h => h) (Or.inl ⟨by rfl, ?hyn8_25⟩) (by assumption) ?_
    case hyn8_25 => (intro w hSw; (try dsimp only at hSw); go_simp; (try with_reducible rfl))
    try simp only [Act.put, List.setIfInBounds_toArray, List.set_cons_zero, List.set_cons_succ]
    refine wpAnyH_done (by kernel_rfl) ?_ _
    go_wp2_with fail
    go_ret
    exact ⟨ret_b rfl, below_trans hb0 (below_drew _)⟩

set_option maxRecDepth 100000 in
set_option maxHeartbeats 4000000 in
theorem neg_two4 (d : Nat) (ih : NeC d) (ihn : PoC d) (x y x' y' : Ty) (v1 v2 : Value) (f1 f2 : List Nat) (w : World) (hx : shp d x = true) (hy : shp d y = true) (hx' : shp d x' = true) (hy' : shp d y' = true) (h1 : (Ty.mk 4 [x, y]).At w v1 f1) (h2 : (Ty.mk 4 [x', y']).At w v2 f2) :
    Calls Try.prog 95 #[v1, v2] w (fun e w' => e = .returned (.bool (sub d 1 x' x && sub d (-1) y y')) ∧ Below w.heap.size w w') := by
  obtain ⟨s1, rfl, hs1⟩ := Ty.at_mk.1 h1
  obtain ⟨s2, rfl, hs2⟩ := Ty.at_mk.1 h2
  obtain ⟨bf, of, cf, k1, n1, a1, c1, k2, n2, a2, c2, g1, g2, rfl, hbf, d0, d1, d2, d3, hX1, hX2, _, hcf⟩ := hs1.two
  obtain ⟨bt, ot, ct, k3, n3, a3, c3, k4, n4, a4, c4, g3, g4, rfl, hbt, e0, e1, e2, e3, hY1, hY2, _, hct⟩ := hs2.two
  have hb0 : Below w.heap.size w ((w.alloc (Obj.cells #[.int .i64 4, .slice (some ⟨bf, of, none⟩) 2 cf] 25)).alloc (Obj.cells #[.int .i64 4, .slice (some ⟨bt, ot, none⟩) 2 ct] 25)) := ((Below.refl _ _).alloc (Nat.le_refl _) _).alloc (by simp) _
  obtain ⟨x0, x1, x2, x3⟩ := box_cells2 (Below.refl (((w.alloc (Obj.cells #[.int .i64 4, .slice (some ⟨bf, of, none⟩) 2 cf] 25)).alloc (Obj.cells #[.int .i64 4, .slice (some ⟨bt, ot, none⟩) 2 ct] 25))).heap.size ((w.alloc (Obj.cells #[.int .i64 4, .slice (some ⟨bf, of, none⟩) 2 cf] 25)).alloc (Obj.cells #[.int .i64 4, .slice (some ⟨bt, ot, none⟩) 2 ct] 25)))
  replace d0 := cell_keep d0 hb0
  replace d1 := cell_keep d1 hb0
  replace d2 := cell_keep d2 hb0
  replace d3 := cell_keep d3 hb0
  replace e0 := cell_keep e0 hb0
  replace e1 := cell_keep e1 hb0
  replace e2 := cell_keep e2 hb0
  replace e3 := cell_keep e3 hb0
  have H := hid (And.intro (hX1.below hb0) (And.intro (hX2.below hb0) (And.intro (hY1.below hb0) (hY2.below hb0))))
  have HP := hid (And.intro hx (And.intro hy (And.intro hx' hy')))
  have HIH := hid ih
  have HIN := hid ihn
  clear ihn
  clear ih h1 h2 hs1 hs2 hX1 hX2 hY1 hY2 hx hy hx' hy'
  generalize hA : sub d 1 x' x = A at *
  generalize hB : sub d (-1) y y' = B at *
  have HA := hid hA
  have HB := hid hB
  clear hA hB
  cases A
  · go_enter Try.func95, Try.ntmps95
    go_wp2_with fail
    refine wp_region_held_drew (S := (fun w' => Below (((w.alloc (Obj.cells #[.int .i64 4, .slice (some ⟨bf, of, none⟩) 2 cf] 25)).alloc (Obj.cells #[.int .i64 4, .slice (some ⟨bt, ot, none⟩) 2 ct] 25))).heap.size ((w.alloc (Obj.cells #[.int .i64 4, .slice (some ⟨bf, of, none⟩) 2 cf] 25)).alloc (Obj.cells #[.int .i64 4, .slice (some ⟨bt, ot, none⟩) 2 ct] 25)) w' ∧ w'.cell? ⟨w.heap.size, 0, none⟩ = some (.int .i64 4) ∧ w'.cell? ⟨w.heap.size, 1, none⟩ = some (.slice (some ⟨bf, of, none⟩) 2 cf) ∧ w'.cell? ⟨w.heap.size + 1, 0, none⟩ = some (.int .i64 4) ∧ w'.cell? ⟨w.heap.size + 1, 1, none⟩ = some (.slice (some ⟨bt, ot, none⟩) 2 ct) ∧ w'.cell? ⟨bf, of, none⟩ = some (.int .i64 k1) ∧ w'.cell? ⟨bf, of + 1, none⟩ = some (.slice a1 n1 c1) ∧ w'.cell? ⟨bf, of + 2, none⟩ = some (.int .i64 k2) ∧ w'.cell? ⟨bf, of + 2 + 1, none⟩ = some (.slice a2 n2 c2) ∧ w'.cell? ⟨bt, ot, none⟩ = some (.int .i64 k3) ∧ w'.cell? ⟨bt, ot + 1, none⟩ = some (.slice a3 n3 c3) ∧ w'.cell? ⟨bt, ot + 2, none⟩ = some (.int .i64 k4) ∧ w'.cell? ⟨bt, ot + 2 + 1, none⟩ = some (.slice a4 n4 c4))) (by kernel_rfl) ?_ (fun hS0 => ?_)
    · (refine (fun hB => ⟨hB, cell_keep x0 hB, cell_keep x1 hB, cell_keep x2 hB, cell_keep x3 hB, cell_keep d0 hB, cell_keep d1 hB, cell_keep d2 hB, cell_keep d3 hB, cell_keep e0 hB, cell_keep e1 hB, cell_keep e2 hB, cell_keep e3 hB⟩ : Below (((w.alloc (Obj.cells #[.int .i64 4, .slice (some ⟨bf, of, none⟩) 2 cf] 25)).alloc (Obj.cells #[.int .i64 4, .slice (some ⟨bt, ot, none⟩) 2 ct] 25))).heap.size ((w.alloc (Obj.cells #[.int .i64 4, .slice (some ⟨bf, of, none⟩) 2 cf] 25)).alloc (Obj.cells #[.int .i64 4, .slice (some ⟨bt, ot, none⟩) 2 ct] 25)) _ → _) ?_; exact below_drew _)
    refine regTake (i := 0) (v := ?vn9_0) rfl (by kernel_rfl) (by kernel_rfl) (by kernel_rfl) (fun _ _ _ h => h) (Or.inl ⟨by rfl, ?hyn9_0⟩) (by assumption) ?_
    case hyn9_0 => (intro w hSw; (try dsimp only at hSw); go_simp; (try with_reducible rfl))
    try simp only [Act.put, List.setIfInBounds_toArray, List.set_cons_zero, List.set_cons_succ]
    refine regTake (i := 1) (v := ?vn9_1) rfl (by kernel_rfl) (by kernel_rfl) (by kernel_rfl) (fun _ _ _ h => h) (Or.inl ⟨by rfl, ?hyn9_1⟩) (by assumption) ?_
    case hyn9_1 => (intro w hSw; (try dsimp only at hSw); go_simp; (try with_reducible rfl))
    try simp only [Act.put, List.setIfInBounds_toArray, List.set_cons_zero, List.set_cons_succ]
    refine regTake (i := 2) (v := ?vn9_2) rfl (by kernel_rfl) (by kernel_rfl) (by kernel_rfl) (fun _ _ _ h => h) (Or.inl ⟨by rfl, ?hyn9_2⟩) (by assumption) ?_
    case hyn9_2 => (intro w hSw; (try dsimp only at hSw); go_simp; (try with_reducible rfl))
    try simp only [Act.put, List.setIfInBounds_toArray, List.set_cons_zero, List.set_cons_succ]
    refine regTake (i := 3) (v := ?vn9_3) rfl (by kernel_rfl) (by kernel_rfl) (by kernel_rfl) (fun _ _ _ h => h) (Or.inl ⟨by rfl, ?hyn9_3⟩) (by assumption) ?_
    case hyn9_3 => (intro w hSw; (try dsimp only at hSw); go_simp; (try with_reducible rfl))
    try simp only [Act.put, List.setIfInBounds_toArray, List.set_cons_zero, List.set_cons_succ]
    refine regTake (i := 4) (v := ?vn9_4) rfl (by kernel_rfl) (by kernel_rfl) (by kernel_rfl) (fun _ _ _ h => h) (Or.inl ⟨by rfl, ?hyn9_4⟩) (by assumption) ?_
    case hyn9_4 => (intro w hSw; (try dsimp only at hSw); go_simp; (try with_reducible rfl))
    try simp only [Act.put, List.setIfInBounds_toArray, List.set_cons_zero, List.set_cons_succ]
    refine regTake (i := 5) (v := ?vn9_5) rfl (by kernel_rfl) (by kernel_rfl) (by kernel_rfl) (fun _ _ _ h => h) (Or.inl ⟨by rfl, ?hyn9_5⟩) (by assumption) ?_
    case hyn9_5 => (intro w hSw; (try dsimp only at hSw); go_simp; (try with_reducible rfl))
    try simp only [Act.put, List.setIfInBounds_toArray, List.set_cons_zero, List.set_cons_succ]
    refine regTake (i := 6) (v := ?vn9_6) rfl (by kernel_rfl) (by kernel_rfl) (by kernel_rfl) (fun _ _ _ h => h) (Or.inl ⟨by rfl, ?hyn9_6⟩) (by assumption) ?_
    case hyn9_6 => (intro w hSw; (try dsimp only at hSw); go_simp; (try with_reducible rfl))
    try simp only [Act.put, List.setIfInBounds_toArray, List.set_cons_zero, List.set_cons_succ]
    refine regTake (i := 7) (v := ?vn9_7) rfl (by kernel_rfl) (by kernel_rfl) (by kernel_rfl) (fun _ _ _ h => h) (Or.inl ⟨by rfl, ?hyn9_7⟩) (by assumption) ?_
    case hyn9_7 => (intro w hSw; (try dsimp only at hSw); go_simp; (try with_reducible rfl))
    try simp only [Act.put, List.setIfInBounds_toArray, List.set_cons_zero, List.set_cons_succ]
    refine wpAnyH_ready (rs := [8]) (by kernel_rfl) (by simp) ?_
    refine regCons rfl (fun K hK => ?_)
    go_simp
    refine (HIN.out x' x _ _ _ _ _ HP.out.2.2.1 HP.out.1 (H.out.2.2.1.below (below_drew _)) (H.out.1.below (below_drew _))).mono ?_
    rw [HA.out]
    rintro e w1 ⟨rfl, hb1⟩
    have hk0 := below_trans (below_drew ((w.alloc (Obj.cells #[.int .i64 4, .slice (some ⟨bf, of, none⟩) 2 cf] 25)).alloc (Obj.cells #[.int .i64 4, .slice (some ⟨bt, ot, none⟩) 2 ct] 25))) hb1
    refine hK.out _ _ ?_ (fun hS1 => ?_)
    · (refine (fun hB => ⟨hB, cell_keep x0 hB, cell_keep x1 hB, cell_keep x2 hB, cell_keep x3 hB, cell_keep d0 hB, cell_keep d1 hB, cell_keep d2 hB, cell_keep d3 hB, cell_keep e0 hB, cell_keep e1 hB, cell_keep e2 hB, cell_keep e3 hB⟩ : Below (((w.alloc (Obj.cells #[.int .i64 4, .slice (some ⟨bf, of, none⟩) 2 cf] 25)).alloc (Obj.cells #[.int .i64 4, .slice (some ⟨bt, ot, none⟩) 2 ct] 25))).heap.size ((w.alloc (Obj.cells #[.int .i64 4, .slice (some ⟨bf, of, none⟩) 2 cf] 25)).alloc (Obj.cells #[.int .i64 4, .slice (some ⟨bt, ot, none⟩) 2 ct] 25)) _ → _) ?_; exact hk0)
    clear hK K hS0
    try simp only [Act.put, List.setIfInBounds_toArray, List.set_cons_zero, List.set_cons_succ]
    refine regTake (i := 9) (v := ?vn9_9) rfl (by kernel_rfl) (by kernel_rfl) (by kernel_rfl) (fun _ _ _ h => h) (Or.inl ⟨by rfl, ?hyn9_9⟩) (by assumption) ?_
    case hyn9_9 => (intro w hSw; (try dsimp only at hSw); go_simp; (try with_reducible rfl))
    try simp only [Act.put, List.setIfInBounds_toArray, List.set_cons_zero, List.set_cons_succ]
    refine regTake (i := 10) (v := undef) rfl (by kernel_rfl) (by kernel_rfl) (by kernel_rfl) (fun _ _ _ h => h) (Or.inr ⟨by rfl, rfl⟩) (by assumption) ?_
    try simp only [Act.put, List.setIfInBounds_toArray, List.set_cons_zero, List.set_cons_succ]
    refine regTake (i := 11) (v := undef) rfl (by kernel_rfl) (by kernel_rfl) (by kernel_rfl) (fun _ _ _ h => h) (Or.inr ⟨by rfl, rfl⟩) (by assumption) ?_
    try simp only [Act.put, List.setIfInBounds_toArray, List.set_cons_zero, List.set_cons_succ]
    refine regTake (i := 12) (v := undef) rfl (by kernel_rfl) (by kernel_rfl) (by kernel_rfl) (fun _ _ _ h => h) (Or.inr ⟨by rfl, rfl⟩) (by assumption) ?_
    try simp only [Act.put, List.setIfInBounds_toArray, List.set_cons_zero, List.set_cons_succ]
    refine regTake (i := 13) (v := undef) rfl (by kernel_rfl) (by kernel_rfl) (by kernel_rfl) (fun _ _ _ h => h) (Or.inr ⟨by rfl, rfl⟩) (by assumption) ?_
    try simp only [Act.put, List.setIfInBounds_toArray, List.set_cons_zero, List.set_cons_succ]
    refine regTake (i := 14) (v := undef) rfl (by kernel_rfl) (by kernel_rfl) (by kernel_rfl) (fun _ _ _ h => h) (Or.inr ⟨by rfl, rfl⟩) (by assumption) ?_
    try simp only [Act.put, List.setIfInBounds_toArray, List.set_cons_zero, List.set_cons_succ]
    refine regTake (i := 15) (v := undef) rfl (by kernel_rfl) (by kernel_rfl) (by kernel_rfl) (fun _ _ _ h => h) (Or.inr ⟨by rfl, rfl⟩) (by assumption) ?_
    try simp only [Act.put, List.setIfInBounds_toArray, List.set_cons_zero, List.set_cons_succ]
    refine regTake (i := 16) (v := undef) rfl (by kernel_rfl) (by kernel_rfl) (by kernel_rfl) (fun _ _ _ h => h) (Or.inr ⟨by rfl, rfl⟩) (by assumption) ?_
    try simp only [Act.put, List.setIfInBounds_toArray, List.set_cons_zero, List.set_cons_succ]
    refine regTake (i := 17) (v := undef) rfl (by kernel_rfl) (by kernel_rfl) (by kernel_rfl) (fun _ _ _ h => h) (Or.inr ⟨by rfl, rfl⟩) (by assumption) ?_
    try simp only [Act.put, List.setIfInBounds_toArray, List.set_cons_zero, List.set_cons_succ]
    refine regTake (i := 18) (v := undef) rfl (by kernel_rfl) (by kernel_rfl) (by kernel_rfl) (fun _ _ _ h => h) (Or.inr ⟨by rfl, rfl⟩) (by assumption) ?_
    try simp only [Act.put, List.setIfInBounds_toArray, List.set_cons_zero, List.set_cons_succ]
    refine regTake (i := 19) (v := .bool false) rfl (by kernel_rfl) (by kernel_rfl) (by kernel_rfl) (fun _ _ _ h => h) (Or.inl ⟨by rfl, ?hyn9_19⟩) (by assumption) ?_
    case hyn9_19 => (intro w hSw; (try dsimp only at hSw); go_simp; (try with_reducible rfl))
    try simp only [Act.put, List.setIfInBounds_toArray, List.set_cons_zero, List.set_cons_succ]
    refine regTake (i := 20) (v := ?vn9_20) rfl (by kernel_rfl) (by kernel_rfl) (by kernel_rfl) (fun _ _ _ h => h) (Or.inl ⟨by rfl, ?hyn9_20⟩) (by assumption) ?_
    case hyn9_20 => (intro w hSw; (try dsimp only at hSw); go_simp; (try with_reducible rfl))
    try simp only [Act.put, List.setIfInBounds_toArray, List.set_cons_zero, List.set_cons_succ]
    refine wpAnyH_done (by kernel_rfl) ?_ _
    go_wp2_with fail
    go_ret
    exact ⟨ret_b rfl, below_trans hb0 (hk0)⟩
  · go_enter Try.func95, Try.ntmps95
    go_wp2_with fail
    refine wp_region_held_drew (S := (fun w' => Below (((w.alloc (Obj.cells #[.int .i64 4, .slice (some ⟨bf, of, none⟩) 2 cf] 25)).alloc (Obj.cells #[.int .i64 4, .slice (some ⟨bt, ot, none⟩) 2 ct] 25))).heap.size ((w.alloc (Obj.cells #[.int .i64 4, .slice (some ⟨bf, of, none⟩) 2 cf] 25)).alloc (Obj.cells #[.int .i64 4, .slice (some ⟨bt, ot, none⟩) 2 ct] 25)) w' ∧ w'.cell? ⟨w.heap.size, 0, none⟩ = some (.int .i64 4) ∧ w'.cell? ⟨w.heap.size, 1, none⟩ = some (.slice (some ⟨bf, of, none⟩) 2 cf) ∧ w'.cell? ⟨w.heap.size + 1, 0, none⟩ = some (.int .i64 4) ∧ w'.cell? ⟨w.heap.size + 1, 1, none⟩ = some (.slice (some ⟨bt, ot, none⟩) 2 ct) ∧ w'.cell? ⟨bf, of, none⟩ = some (.int .i64 k1) ∧ w'.cell? ⟨bf, of + 1, none⟩ = some (.slice a1 n1 c1) ∧ w'.cell? ⟨bf, of + 2, none⟩ = some (.int .i64 k2) ∧ w'.cell? ⟨bf, of + 2 + 1, none⟩ = some (.slice a2 n2 c2) ∧ w'.cell? ⟨bt, ot, none⟩ = some (.int .i64 k3) ∧ w'.cell? ⟨bt, ot + 1, none⟩ = some (.slice a3 n3 c3) ∧ w'.cell? ⟨bt, ot + 2, none⟩ = some (.int .i64 k4) ∧ w'.cell? ⟨bt, ot + 2 + 1, none⟩ = some (.slice a4 n4 c4))) (by kernel_rfl) ?_ (fun hS0 => ?_)
    · (refine (fun hB => ⟨hB, cell_keep x0 hB, cell_keep x1 hB, cell_keep x2 hB, cell_keep x3 hB, cell_keep d0 hB, cell_keep d1 hB, cell_keep d2 hB, cell_keep d3 hB, cell_keep e0 hB, cell_keep e1 hB, cell_keep e2 hB, cell_keep e3 hB⟩ : Below (((w.alloc (Obj.cells #[.int .i64 4, .slice (some ⟨bf, of, none⟩) 2 cf] 25)).alloc (Obj.cells #[.int .i64 4, .slice (some ⟨bt, ot, none⟩) 2 ct] 25))).heap.size ((w.alloc (Obj.cells #[.int .i64 4, .slice (some ⟨bf, of, none⟩) 2 cf] 25)).alloc (Obj.cells #[.int .i64 4, .slice (some ⟨bt, ot, none⟩) 2 ct] 25)) _ → _) ?_; exact below_drew _)
    refine regTake (i := 0) (v := ?vn10_0) rfl (by kernel_rfl) (by kernel_rfl) (by kernel_rfl) (fun _ _ _ h => h) (Or.inl ⟨by rfl, ?hyn10_0⟩) (by assumption) ?_
    case hyn10_0 => (intro w hSw; (try dsimp only at hSw); go_simp; (try with_reducible rfl))
    try simp only [Act.put, List.setIfInBounds_toArray, List.set_cons_zero, List.set_cons_succ]
    refine regTake (i := 1) (v := ?vn10_1) rfl (by kernel_rfl) (by kernel_rfl) (by kernel_rfl) (fun _ _ _ h => h) (Or.inl ⟨by rfl, ?hyn10_1⟩) (by assumption) ?_
    case hyn10_1 => (intro w hSw; (try dsimp only at hSw); go_simp; (try with_reducible rfl))
    try simp only [Act.put, List.setIfInBounds_toArray, List.set_cons_zero, List.set_cons_succ]
    refine regTake (i := 2) (v := ?vn10_2) rfl (by kernel_rfl) (by kernel_rfl) (by kernel_rfl) (fun _ _ _ h => h) (Or.inl ⟨by rfl, ?hyn10_2⟩) (by assumption) ?_
    case hyn10_2 => (intro w hSw; (try dsimp only at hSw); go_simp; (try with_reducible rfl))
    try simp only [Act.put, List.setIfInBounds_toArray, List.set_cons_zero, List.set_cons_succ]
    refine regTake (i := 3) (v := ?vn10_3) rfl (by kernel_rfl) (by kernel_rfl) (by kernel_rfl) (fun _ _ _ h => h) (Or.inl ⟨by rfl, ?hyn10_3⟩) (by assumption) ?_
    case hyn10_3 => (intro w hSw; (try dsimp only at hSw); go_simp; (try with_reducible rfl))
    try simp only [Act.put, List.setIfInBounds_toArray, List.set_cons_zero, List.set_cons_succ]
    refine regTake (i := 4) (v := ?vn10_4) rfl (by kernel_rfl) (by kernel_rfl) (by kernel_rfl) (fun _ _ _ h => h) (Or.inl ⟨by rfl, ?hyn10_4⟩) (by assumption) ?_
    case hyn10_4 => (intro w hSw; (try dsimp only at hSw); go_simp; (try with_reducible rfl))
    try simp only [Act.put, List.setIfInBounds_toArray, List.set_cons_zero, List.set_cons_succ]
    refine regTake (i := 5) (v := ?vn10_5) rfl (by kernel_rfl) (by kernel_rfl) (by kernel_rfl) (fun _ _ _ h => h) (Or.inl ⟨by rfl, ?hyn10_5⟩) (by assumption) ?_
    case hyn10_5 => (intro w hSw; (try dsimp only at hSw); go_simp; (try with_reducible rfl))
    try simp only [Act.put, List.setIfInBounds_toArray, List.set_cons_zero, List.set_cons_succ]
    refine regTake (i := 6) (v := ?vn10_6) rfl (by kernel_rfl) (by kernel_rfl) (by kernel_rfl) (fun _ _ _ h => h) (Or.inl ⟨by rfl, ?hyn10_6⟩) (by assumption) ?_
    case hyn10_6 => (intro w hSw; (try dsimp only at hSw); go_simp; (try with_reducible rfl))
    try simp only [Act.put, List.setIfInBounds_toArray, List.set_cons_zero, List.set_cons_succ]
    refine regTake (i := 7) (v := ?vn10_7) rfl (by kernel_rfl) (by kernel_rfl) (by kernel_rfl) (fun _ _ _ h => h) (Or.inl ⟨by rfl, ?hyn10_7⟩) (by assumption) ?_
    case hyn10_7 => (intro w hSw; (try dsimp only at hSw); go_simp; (try with_reducible rfl))
    try simp only [Act.put, List.setIfInBounds_toArray, List.set_cons_zero, List.set_cons_succ]
    refine wpAnyH_ready (rs := [8]) (by kernel_rfl) (by simp) ?_
    refine regCons rfl (fun K hK => ?_)
    go_simp
    refine (HIN.out x' x _ _ _ _ _ HP.out.2.2.1 HP.out.1 (H.out.2.2.1.below (below_drew _)) (H.out.1.below (below_drew _))).mono ?_
    rw [HA.out]
    rintro e w1 ⟨rfl, hb1⟩
    have hk0 := below_trans (below_drew ((w.alloc (Obj.cells #[.int .i64 4, .slice (some ⟨bf, of, none⟩) 2 cf] 25)).alloc (Obj.cells #[.int .i64 4, .slice (some ⟨bt, ot, none⟩) 2 ct] 25))) hb1
    refine hK.out _ _ ?_ (fun hS1 => ?_)
    · (refine (fun hB => ⟨hB, cell_keep x0 hB, cell_keep x1 hB, cell_keep x2 hB, cell_keep x3 hB, cell_keep d0 hB, cell_keep d1 hB, cell_keep d2 hB, cell_keep d3 hB, cell_keep e0 hB, cell_keep e1 hB, cell_keep e2 hB, cell_keep e3 hB⟩ : Below (((w.alloc (Obj.cells #[.int .i64 4, .slice (some ⟨bf, of, none⟩) 2 cf] 25)).alloc (Obj.cells #[.int .i64 4, .slice (some ⟨bt, ot, none⟩) 2 ct] 25))).heap.size ((w.alloc (Obj.cells #[.int .i64 4, .slice (some ⟨bf, of, none⟩) 2 cf] 25)).alloc (Obj.cells #[.int .i64 4, .slice (some ⟨bt, ot, none⟩) 2 ct] 25)) _ → _) ?_; exact hk0)
    clear hK K hS0
    try simp only [Act.put, List.setIfInBounds_toArray, List.set_cons_zero, List.set_cons_succ]
    refine regTake (i := 9) (v := ?vn10_9) rfl (by kernel_rfl) (by kernel_rfl) (by kernel_rfl) (fun _ _ _ h => h) (Or.inl ⟨by rfl, ?hyn10_9⟩) (by assumption) ?_
    case hyn10_9 => (intro w hSw; (try dsimp only at hSw); go_simp; (try with_reducible rfl))
    try simp only [Act.put, List.setIfInBounds_toArray, List.set_cons_zero, List.set_cons_succ]
    refine regTake (i := 10) (v := ?vn10_10) rfl (by kernel_rfl) (by kernel_rfl) (by kernel_rfl) (fun _ _ _ h => h) (Or.inl ⟨by rfl, ?hyn10_10⟩) (by assumption) ?_
    case hyn10_10 => (intro w hSw; (try dsimp only at hSw); go_simp; (try with_reducible rfl))
    try simp only [Act.put, List.setIfInBounds_toArray, List.set_cons_zero, List.set_cons_succ]
    refine regTake (i := 11) (v := ?vn10_11) rfl (by kernel_rfl) (by kernel_rfl) (by kernel_rfl) (fun _ _ _ h => h) (Or.inl ⟨by rfl, ?hyn10_11⟩) (by assumption) ?_
    case hyn10_11 => (intro w hSw; (try dsimp only at hSw); go_simp; (try with_reducible rfl))
    try simp only [Act.put, List.setIfInBounds_toArray, List.set_cons_zero, List.set_cons_succ]
    refine regTake (i := 12) (v := ?vn10_12) rfl (by kernel_rfl) (by kernel_rfl) (by kernel_rfl) (fun _ _ _ h => h) (Or.inl ⟨by rfl, ?hyn10_12⟩) (by assumption) ?_
    case hyn10_12 => (intro w hSw; (try dsimp only at hSw); go_simp; (try with_reducible rfl))
    try simp only [Act.put, List.setIfInBounds_toArray, List.set_cons_zero, List.set_cons_succ]
    refine regTake (i := 13) (v := ?vn10_13) rfl (by kernel_rfl) (by kernel_rfl) (by kernel_rfl) (fun _ _ _ h => h) (Or.inl ⟨by rfl, ?hyn10_13⟩) (by assumption) ?_
    case hyn10_13 => (intro w hSw; (try dsimp only at hSw); go_simp; (try with_reducible rfl))
    try simp only [Act.put, List.setIfInBounds_toArray, List.set_cons_zero, List.set_cons_succ]
    refine regTake (i := 14) (v := ?vn10_14) rfl (by kernel_rfl) (by kernel_rfl) (by kernel_rfl) (fun _ _ _ h => h) (Or.inl ⟨by rfl, ?hyn10_14⟩) (by assumption) ?_
    case hyn10_14 => (intro w hSw; (try dsimp only at hSw); go_simp; (try with_reducible rfl))
    try simp only [Act.put, List.setIfInBounds_toArray, List.set_cons_zero, List.set_cons_succ]
    refine regTake (i := 15) (v := ?vn10_15) rfl (by kernel_rfl) (by kernel_rfl) (by kernel_rfl) (fun _ _ _ h => h) (Or.inl ⟨by rfl, ?hyn10_15⟩) (by assumption) ?_
    case hyn10_15 => (intro w hSw; (try dsimp only at hSw); go_simp; (try with_reducible rfl))
    try simp only [Act.put, List.setIfInBounds_toArray, List.set_cons_zero, List.set_cons_succ]
    refine regTake (i := 16) (v := ?vn10_16) rfl (by kernel_rfl) (by kernel_rfl) (by kernel_rfl) (fun _ _ _ h => h) (Or.inl ⟨by rfl, ?hyn10_16⟩) (by assumption) ?_
    case hyn10_16 => (intro w hSw; (try dsimp only at hSw); go_simp; (try with_reducible rfl))
    try simp only [Act.put, List.setIfInBounds_toArray, List.set_cons_zero, List.set_cons_succ]
    refine regTake (i := 17) (v := ?vn10_17) rfl (by kernel_rfl) (by kernel_rfl) (by kernel_rfl) (fun _ _ _ h => h) (Or.inl ⟨by rfl, ?hyn10_17⟩) (by assumption) ?_
    case hyn10_17 => (intro w hSw; (try dsimp only at hSw); go_simp; (try with_reducible rfl))
    try simp only [Act.put, List.setIfInBounds_toArray, List.set_cons_zero, List.set_cons_succ]
    refine wpAnyH_ready (rs := [18]) (by kernel_rfl) (by simp) ?_
    refine regCons rfl (fun K hK => ?_)
    go_simp
    refine (HIH.out y y' _ _ _ _ _ HP.out.2.1 HP.out.2.2.2 (H.out.2.1.below hk0) (H.out.2.2.2.below hk0)).mono ?_
    rw [HB.out]
    rintro e w2 ⟨rfl, hb2⟩
    have hk1 := below_trans hk0 hb2
    refine hK.out _ _ ?_ (fun hS2 => ?_)
    · (refine (fun hB => ⟨hB, cell_keep x0 hB, cell_keep x1 hB, cell_keep x2 hB, cell_keep x3 hB, cell_keep d0 hB, cell_keep d1 hB, cell_keep d2 hB, cell_keep d3 hB, cell_keep e0 hB, cell_keep e1 hB, cell_keep e2 hB, cell_keep e3 hB⟩ : Below (((w.alloc (Obj.cells #[.int .i64 4, .slice (some ⟨bf, of, none⟩) 2 cf] 25)).alloc (Obj.cells #[.int .i64 4, .slice (some ⟨bt, ot, none⟩) 2 ct] 25))).heap.size ((w.alloc (Obj.cells #[.int .i64 4, .slice (some ⟨bf, of, none⟩) 2 cf] 25)).alloc (Obj.cells #[.int .i64 4, .slice (some ⟨bt, ot, none⟩) 2 ct] 25)) _ → _) ?_; exact hk1)
    clear hK K hS1
    try simp only [Act.put, List.setIfInBounds_toArray, List.set_cons_zero, List.set_cons_succ]
    refine regTake (i := 19) (v := .bool B) rfl (by kernel_rfl) (by kernel_rfl) (by kernel_rfl) (fun _ _ _ h => h) (Or.inl ⟨by rfl, ?hyn10_19⟩) (by assumption) ?_
    case hyn10_19 => (intro w hSw; (try dsimp only at hSw); go_simp; (try with_reducible rfl))
    try simp only [Act.put, List.setIfInBounds_toArray, List.set_cons_zero, List.set_cons_succ]
    refine regTake (i := 20) (v := ?vn10_20) rfl (by kernel_rfl) (by kernel_rfl) (by kernel_rfl) (fun _ _ _ h => h) (Or.inl ⟨by rfl, ?hyn10_20⟩) (by assumption) ?_
    case hyn10_20 => (intro w hSw; (try dsimp only at hSw); go_simp; (try with_reducible rfl))
    try simp only [Act.put, List.setIfInBounds_toArray, List.set_cons_zero, List.set_cons_succ]
    refine wpAnyH_done (by kernel_rfl) ?_ _
    go_wp2_with fail
    go_ret
    exact ⟨ret_b rfl, below_trans hb0 (hk1)⟩

set_option maxRecDepth 100000 in
set_option maxHeartbeats 4000000 in
theorem neg_two5 (d : Nat) (ih : NeC d) (x y x' y' : Ty) (v1 v2 : Value) (f1 f2 : List Nat) (w : World) (hx : shp d x = true) (hy : shp d y = true) (hx' : shp d x' = true) (hy' : shp d y' = true) (h1 : (Ty.mk 5 [x, y]).At w v1 f1) (h2 : (Ty.mk 5 [x', y']).At w v2 f2) :
    Calls Try.prog 95 #[v1, v2] w (fun e w' => e = .returned (.bool (sub d (-1) x x' && sub d (-1) y y')) ∧ Below w.heap.size w w') := by
  obtain ⟨s1, rfl, hs1⟩ := Ty.at_mk.1 h1
  obtain ⟨s2, rfl, hs2⟩ := Ty.at_mk.1 h2
  obtain ⟨bf, of, cf, k1, n1, a1, c1, k2, n2, a2, c2, g1, g2, rfl, hbf, d0, d1, d2, d3, hX1, hX2, _, hcf⟩ := hs1.two
  obtain ⟨bt, ot, ct, k3, n3, a3, c3, k4, n4, a4, c4, g3, g4, rfl, hbt, e0, e1, e2, e3, hY1, hY2, _, hct⟩ := hs2.two
  have hb0 : Below w.heap.size w ((w.alloc (Obj.cells #[.int .i64 5, .slice (some ⟨bf, of, none⟩) 2 cf] 25)).alloc (Obj.cells #[.int .i64 5, .slice (some ⟨bt, ot, none⟩) 2 ct] 25)) := ((Below.refl _ _).alloc (Nat.le_refl _) _).alloc (by simp) _
  obtain ⟨x0, x1, x2, x3⟩ := box_cells2 (Below.refl (((w.alloc (Obj.cells #[.int .i64 5, .slice (some ⟨bf, of, none⟩) 2 cf] 25)).alloc (Obj.cells #[.int .i64 5, .slice (some ⟨bt, ot, none⟩) 2 ct] 25))).heap.size ((w.alloc (Obj.cells #[.int .i64 5, .slice (some ⟨bf, of, none⟩) 2 cf] 25)).alloc (Obj.cells #[.int .i64 5, .slice (some ⟨bt, ot, none⟩) 2 ct] 25)))
  replace d0 := cell_keep d0 hb0
  replace d1 := cell_keep d1 hb0
  replace d2 := cell_keep d2 hb0
  replace d3 := cell_keep d3 hb0
  replace e0 := cell_keep e0 hb0
  replace e1 := cell_keep e1 hb0
  replace e2 := cell_keep e2 hb0
  replace e3 := cell_keep e3 hb0
  have H := hid (And.intro (hX1.below hb0) (And.intro (hX2.below hb0) (And.intro (hY1.below hb0) (hY2.below hb0))))
  have HP := hid (And.intro hx (And.intro hy (And.intro hx' hy')))
  have HIH := hid ih
  clear ih h1 h2 hs1 hs2 hX1 hX2 hY1 hY2 hx hy hx' hy'
  generalize hA : sub d (-1) x x' = A at *
  generalize hB : sub d (-1) y y' = B at *
  have HA := hid hA
  have HB := hid hB
  clear hA hB
  cases A
  · go_enter Try.func95, Try.ntmps95
    go_wp2_with fail
    refine wp_region_held_drew (S := (fun w' => Below (((w.alloc (Obj.cells #[.int .i64 5, .slice (some ⟨bf, of, none⟩) 2 cf] 25)).alloc (Obj.cells #[.int .i64 5, .slice (some ⟨bt, ot, none⟩) 2 ct] 25))).heap.size ((w.alloc (Obj.cells #[.int .i64 5, .slice (some ⟨bf, of, none⟩) 2 cf] 25)).alloc (Obj.cells #[.int .i64 5, .slice (some ⟨bt, ot, none⟩) 2 ct] 25)) w' ∧ w'.cell? ⟨w.heap.size, 0, none⟩ = some (.int .i64 5) ∧ w'.cell? ⟨w.heap.size, 1, none⟩ = some (.slice (some ⟨bf, of, none⟩) 2 cf) ∧ w'.cell? ⟨w.heap.size + 1, 0, none⟩ = some (.int .i64 5) ∧ w'.cell? ⟨w.heap.size + 1, 1, none⟩ = some (.slice (some ⟨bt, ot, none⟩) 2 ct) ∧ w'.cell? ⟨bf, of, none⟩ = some (.int .i64 k1) ∧ w'.cell? ⟨bf, of + 1, none⟩ = some (.slice a1 n1 c1) ∧ w'.cell? ⟨bf, of + 2, none⟩ = some (.int .i64 k2) ∧ w'.cell? ⟨bf, of + 2 + 1, none⟩ = some (.slice a2 n2 c2) ∧ w'.cell? ⟨bt, ot, none⟩ = some (.int .i64 k3) ∧ w'.cell? ⟨bt, ot + 1, none⟩ = some (.slice a3 n3 c3) ∧ w'.cell? ⟨bt, ot + 2, none⟩ = some (.int .i64 k4) ∧ w'.cell? ⟨bt, ot + 2 + 1, none⟩ = some (.slice a4 n4 c4))) (by kernel_rfl) ?_ (fun hS0 => ?_)
    · (refine (fun hB => ⟨hB, cell_keep x0 hB, cell_keep x1 hB, cell_keep x2 hB, cell_keep x3 hB, cell_keep d0 hB, cell_keep d1 hB, cell_keep d2 hB, cell_keep d3 hB, cell_keep e0 hB, cell_keep e1 hB, cell_keep e2 hB, cell_keep e3 hB⟩ : Below (((w.alloc (Obj.cells #[.int .i64 5, .slice (some ⟨bf, of, none⟩) 2 cf] 25)).alloc (Obj.cells #[.int .i64 5, .slice (some ⟨bt, ot, none⟩) 2 ct] 25))).heap.size ((w.alloc (Obj.cells #[.int .i64 5, .slice (some ⟨bf, of, none⟩) 2 cf] 25)).alloc (Obj.cells #[.int .i64 5, .slice (some ⟨bt, ot, none⟩) 2 ct] 25)) _ → _) ?_; exact below_drew _)
    refine regTake (i := 0) (v := ?vn11_0) rfl (by kernel_rfl) (by kernel_rfl) (by kernel_rfl) (fun _ _ _ h => h) (Or.inl ⟨by rfl, ?hyn11_0⟩) (by assumption) ?_
    case hyn11_0 => (intro w hSw; (try dsimp only at hSw); go_simp; (try with_reducible rfl))
    try simp only [Act.put, List.setIfInBounds_toArray, List.set_cons_zero, List.set_cons_succ]
    refine regTake (i := 1) (v := ?vn11_1) rfl (by kernel_rfl) (by kernel_rfl) (by kernel_rfl) (fun _ _ _ h => h) (Or.inl ⟨by rfl, ?hyn11_1⟩) (by assumption) ?_
    case hyn11_1 => (intro w hSw; (try dsimp only at hSw); go_simp; (try with_reducible rfl))
    try simp only [Act.put, List.setIfInBounds_toArray, List.set_cons_zero, List.set_cons_succ]
    refine regTake (i := 2) (v := ?vn11_2) rfl (by kernel_rfl) (by kernel_rfl) (by kernel_rfl) (fun _ _ _ h => h) (Or.inl ⟨by rfl, ?hyn11_2⟩) (by assumption) ?_
    case hyn11_2 => (intro w hSw; (try dsimp only at hSw); go_simp; (try with_reducible rfl))
    try simp only [Act.put, List.setIfInBounds_toArray, List.set_cons_zero, List.set_cons_succ]
    refine regTake (i := 3) (v := ?vn11_3) rfl (by kernel_rfl) (by kernel_rfl) (by kernel_rfl) (fun _ _ _ h => h) (Or.inl ⟨by rfl, ?hyn11_3⟩) (by assumption) ?_
    case hyn11_3 => (intro w hSw; (try dsimp only at hSw); go_simp; (try with_reducible rfl))
    try simp only [Act.put, List.setIfInBounds_toArray, List.set_cons_zero, List.set_cons_succ]
    refine regTake (i := 4) (v := ?vn11_4) rfl (by kernel_rfl) (by kernel_rfl) (by kernel_rfl) (fun _ _ _ h => h) (Or.inl ⟨by rfl, ?hyn11_4⟩) (by assumption) ?_
    case hyn11_4 => (intro w hSw; (try dsimp only at hSw); go_simp; (try with_reducible rfl))
    try simp only [Act.put, List.setIfInBounds_toArray, List.set_cons_zero, List.set_cons_succ]
    refine regTake (i := 5) (v := ?vn11_5) rfl (by kernel_rfl) (by kernel_rfl) (by kernel_rfl) (fun _ _ _ h => h) (Or.inl ⟨by rfl, ?hyn11_5⟩) (by assumption) ?_
    case hyn11_5 => (intro w hSw; (try dsimp only at hSw); go_simp; (try with_reducible rfl))
    try simp only [Act.put, List.setIfInBounds_toArray, List.set_cons_zero, List.set_cons_succ]
    refine regTake (i := 6) (v := ?vn11_6) rfl (by kernel_rfl) (by kernel_rfl) (by kernel_rfl) (fun _ _ _ h => h) (Or.inl ⟨by rfl, ?hyn11_6⟩) (by assumption) ?_
    case hyn11_6 => (intro w hSw; (try dsimp only at hSw); go_simp; (try with_reducible rfl))
    try simp only [Act.put, List.setIfInBounds_toArray, List.set_cons_zero, List.set_cons_succ]
    refine regTake (i := 7) (v := ?vn11_7) rfl (by kernel_rfl) (by kernel_rfl) (by kernel_rfl) (fun _ _ _ h => h) (Or.inl ⟨by rfl, ?hyn11_7⟩) (by assumption) ?_
    case hyn11_7 => (intro w hSw; (try dsimp only at hSw); go_simp; (try with_reducible rfl))
    try simp only [Act.put, List.setIfInBounds_toArray, List.set_cons_zero, List.set_cons_succ]
    refine regTake (i := 8) (v := ?vn11_8) rfl (by kernel_rfl) (by kernel_rfl) (by kernel_rfl) (fun _ _ _ h => h) (Or.inl ⟨by rfl, ?hyn11_8⟩) (by assumption) ?_
    case hyn11_8 => (intro w hSw; (try dsimp only at hSw); go_simp; (try with_reducible rfl))
    try simp only [Act.put, List.setIfInBounds_toArray, List.set_cons_zero, List.set_cons_succ]
    refine regTake (i := 9) (v := ?vn11_9) rfl (by kernel_rfl) (by kernel_rfl) (by kernel_rfl) (fun _ _ _ h => h) (Or.inl ⟨by rfl, ?hyn11_9⟩) (by assumption) ?_
    case hyn11_9 => (intro w hSw; (try dsimp only at hSw); go_simp; (try with_reducible rfl))
    try simp only [Act.put, List.setIfInBounds_toArray, List.set_cons_zero, List.set_cons_succ]
    refine regTake (i := 10) (v := ?vn11_10) rfl (by kernel_rfl) (by kernel_rfl) (by kernel_rfl) (fun _ _ _ h => h) (Or.inl ⟨by rfl, ?hyn11_10⟩) (by assumption) ?_
    case hyn11_10 => (intro w hSw; (try dsimp only at hSw); go_simp; (try with_reducible rfl))
    try simp only [Act.put, List.setIfInBounds_toArray, List.set_cons_zero, List.set_cons_succ]
    refine regTake (i := 11) (v := ?vn11_11) rfl (by kernel_rfl) (by kernel_rfl) (by kernel_rfl) (fun _ _ _ h => h) (Or.inl ⟨by rfl, ?hyn11_11⟩) (by assumption) ?_
    case hyn11_11 => (intro w hSw; (try dsimp only at hSw); go_simp; (try with_reducible rfl))
    try simp only [Act.put, List.setIfInBounds_toArray, List.set_cons_zero, List.set_cons_succ]
    refine wpAnyH_ready (rs := [12]) (by kernel_rfl) (by simp) ?_
    refine regCons rfl (fun K hK => ?_)
    go_simp
    refine (HIH.out x x' _ _ _ _ _ HP.out.1 HP.out.2.2.1 (H.out.1.below (below_drew _)) (H.out.2.2.1.below (below_drew _))).mono ?_
    rw [HA.out]
    rintro e w1 ⟨rfl, hb1⟩
    have hk0 := below_trans (below_drew ((w.alloc (Obj.cells #[.int .i64 5, .slice (some ⟨bf, of, none⟩) 2 cf] 25)).alloc (Obj.cells #[.int .i64 5, .slice (some ⟨bt, ot, none⟩) 2 ct] 25))) hb1
    refine hK.out _ _ ?_ (fun hS1 => ?_)
    · (refine (fun hB => ⟨hB, cell_keep x0 hB, cell_keep x1 hB, cell_keep x2 hB, cell_keep x3 hB, cell_keep d0 hB, cell_keep d1 hB, cell_keep d2 hB, cell_keep d3 hB, cell_keep e0 hB, cell_keep e1 hB, cell_keep e2 hB, cell_keep e3 hB⟩ : Below (((w.alloc (Obj.cells #[.int .i64 5, .slice (some ⟨bf, of, none⟩) 2 cf] 25)).alloc (Obj.cells #[.int .i64 5, .slice (some ⟨bt, ot, none⟩) 2 ct] 25))).heap.size ((w.alloc (Obj.cells #[.int .i64 5, .slice (some ⟨bf, of, none⟩) 2 cf] 25)).alloc (Obj.cells #[.int .i64 5, .slice (some ⟨bt, ot, none⟩) 2 ct] 25)) _ → _) ?_; exact hk0)
    clear hK K hS0
    try simp only [Act.put, List.setIfInBounds_toArray, List.set_cons_zero, List.set_cons_succ]
    refine regTake (i := 13) (v := ?vn11_13) rfl (by kernel_rfl) (by kernel_rfl) (by kernel_rfl) (fun _ _ _ h => h) (Or.inl ⟨by rfl, ?hyn11_13⟩) (by assumption) ?_
    case hyn11_13 => (intro w hSw; (try dsimp only at hSw); go_simp; (try with_reducible rfl))
    try simp only [Act.put, List.setIfInBounds_toArray, List.set_cons_zero, List.set_cons_succ]
    refine regTake (i := 14) (v := undef) rfl (by kernel_rfl) (by kernel_rfl) (by kernel_rfl) (fun _ _ _ h => h) (Or.inr ⟨by rfl, rfl⟩) (by assumption) ?_
    try simp only [Act.put, List.setIfInBounds_toArray, List.set_cons_zero, List.set_cons_succ]
    refine regTake (i := 15) (v := undef) rfl (by kernel_rfl) (by kernel_rfl) (by kernel_rfl) (fun _ _ _ h => h) (Or.inr ⟨by rfl, rfl⟩) (by assumption) ?_
    try simp only [Act.put, List.setIfInBounds_toArray, List.set_cons_zero, List.set_cons_succ]
    refine regTake (i := 16) (v := undef) rfl (by kernel_rfl) (by kernel_rfl) (by kernel_rfl) (fun _ _ _ h => h) (Or.inr ⟨by rfl, rfl⟩) (by assumption) ?_
    try simp only [Act.put, List.setIfInBounds_toArray, List.set_cons_zero, List.set_cons_succ]
    refine regTake (i := 17) (v := undef) rfl (by kernel_rfl) (by kernel_rfl) (by kernel_rfl) (fun _ _ _ h => h) (Or.inr ⟨by rfl, rfl⟩) (by assumption) ?_
    try simp only [Act.put, List.setIfInBounds_toArray, List.set_cons_zero, List.set_cons_succ]
    refine regTake (i := 18) (v := undef) rfl (by kernel_rfl) (by kernel_rfl) (by kernel_rfl) (fun _ _ _ h => h) (Or.inr ⟨by rfl, rfl⟩) (by assumption) ?_
    try simp only [Act.put, List.setIfInBounds_toArray, List.set_cons_zero, List.set_cons_succ]
    refine regTake (i := 19) (v := undef) rfl (by kernel_rfl) (by kernel_rfl) (by kernel_rfl) (fun _ _ _ h => h) (Or.inr ⟨by rfl, rfl⟩) (by assumption) ?_
    try simp only [Act.put, List.setIfInBounds_toArray, List.set_cons_zero, List.set_cons_succ]
    refine regTake (i := 20) (v := undef) rfl (by kernel_rfl) (by kernel_rfl) (by kernel_rfl) (fun _ _ _ h => h) (Or.inr ⟨by rfl, rfl⟩) (by assumption) ?_
    try simp only [Act.put, List.setIfInBounds_toArray, List.set_cons_zero, List.set_cons_succ]
    refine regTake (i := 21) (v := undef) rfl (by kernel_rfl) (by kernel_rfl) (by kernel_rfl) (fun _ _ _ h => h) (Or.inr ⟨by rfl, rfl⟩) (by assumption) ?_
    try simp only [Act.put, List.setIfInBounds_toArray, List.set_cons_zero, List.set_cons_succ]
    refine regTake (i := 22) (v := undef) rfl (by kernel_rfl) (by kernel_rfl) (by kernel_rfl) (fun _ _ _ h => h) (Or.inr ⟨by rfl, rfl⟩) (by assumption) ?_
    try simp only [Act.put, List.setIfInBounds_toArray, List.set_cons_zero, List.set_cons_succ]
    refine regTake (i := 23) (v := .bool false) rfl (by kernel_rfl) (by kernel_rfl) (by kernel_rfl) (fun _ _ _ h => h) (Or.inl ⟨by rfl, ?hyn11_23⟩) (by assumption) ?_
    case hyn11_23 => (intro w hSw; (try dsimp only at hSw); go_simp; (try with_reducible rfl))
    try simp only [Act.put, List.setIfInBounds_toArray, List.set_cons_zero, List.set_cons_succ]
    refine regTake (i := 24) (v := .bool false) rfl (by kernel_rfl) (by kernel_rfl) (by kernel_rfl) (fun _ _ _ h => h) (Or.inl ⟨by rfl, ?hyn11_24⟩) (by assumption) ?_
    case hyn11_24 => (intro w hSw; (try dsimp only at hSw); go_simp; (try with_reducible rfl))
    try simp only [Act.put, List.setIfInBounds_toArray, List.set_cons_zero, List.set_cons_succ]
    refine regTake (i := 25) (v := ?vn11_25) rfl (by kernel_rfl) (by kernel_rfl) (by kernel_rfl) (fun _ _ _ h => h) (Or.inl ⟨by rfl, ?hyn11_25⟩) (by assumption) ?_
    case hyn11_25 => (intro w hSw; (try dsimp only at hSw); go_simp; (try with_reducible rfl))
    try simp only [Act.put, List.setIfInBounds_toArray, List.set_cons_zero, List.set_cons_succ]
    refine wpAnyH_done (by kernel_rfl) ?_ _
    go_wp2_with fail
    go_ret
    exact ⟨ret_b rfl, below_trans hb0 (hk0)⟩
  · go_enter Try.func95, Try.ntmps95
    go_wp2_with fail
    refine wp_region_held_drew (S := (fun w' => Below (((w.alloc (Obj.cells #[.int .i64 5, .slice (some ⟨bf, of, none⟩) 2 cf] 25)).alloc (Obj.cells #[.int .i64 5, .slice (some ⟨bt, ot, none⟩) 2 ct] 25))).heap.size ((w.alloc (Obj.cells #[.int .i64 5, .slice (some ⟨bf, of, none⟩) 2 cf] 25)).alloc (Obj.cells #[.int .i64 5, .slice (some ⟨bt, ot, none⟩) 2 ct] 25)) w' ∧ w'.cell? ⟨w.heap.size, 0, none⟩ = some (.int .i64 5) ∧ w'.cell? ⟨w.heap.size, 1, none⟩ = some (.slice (some ⟨bf, of, none⟩) 2 cf) ∧ w'.cell? ⟨w.heap.size + 1, 0, none⟩ = some (.int .i64 5) ∧ w'.cell? ⟨w.heap.size + 1, 1, none⟩ = some (.slice (some ⟨bt, ot, none⟩) 2 ct) ∧ w'.cell? ⟨bf, of, none⟩ = some (.int .i64 k1) ∧ w'.cell? ⟨bf, of + 1, none⟩ = some (.slice a1 n1 c1) ∧ w'.cell? ⟨bf, of + 2, none⟩ = some (.int .i64 k2) ∧ w'.cell? ⟨bf, of + 2 + 1, none⟩ = some (.slice a2 n2 c2) ∧ w'.cell? ⟨bt, ot, none⟩ = some (.int .i64 k3) ∧ w'.cell? ⟨bt, ot + 1, none⟩ = some (.slice a3 n3 c3) ∧ w'.cell? ⟨bt, ot + 2, none⟩ = some (.int .i64 k4) ∧ w'.cell? ⟨bt, ot + 2 + 1, none⟩ = some (.slice a4 n4 c4))) (by kernel_rfl) ?_ (fun hS0 => ?_)
    · (refine (fun hB => ⟨hB, cell_keep x0 hB, cell_keep x1 hB, cell_keep x2 hB, cell_keep x3 hB, cell_keep d0 hB, cell_keep d1 hB, cell_keep d2 hB, cell_keep d3 hB, cell_keep e0 hB, cell_keep e1 hB, cell_keep e2 hB, cell_keep e3 hB⟩ : Below (((w.alloc (Obj.cells #[.int .i64 5, .slice (some ⟨bf, of, none⟩) 2 cf] 25)).alloc (Obj.cells #[.int .i64 5, .slice (some ⟨bt, ot, none⟩) 2 ct] 25))).heap.size ((w.alloc (Obj.cells #[.int .i64 5, .slice (some ⟨bf, of, none⟩) 2 cf] 25)).alloc (Obj.cells #[.int .i64 5, .slice (some ⟨bt, ot, none⟩) 2 ct] 25)) _ → _) ?_; exact below_drew _)
    refine regTake (i := 0) (v := ?vn12_0) rfl (by kernel_rfl) (by kernel_rfl) (by kernel_rfl) (fun _ _ _ h => h) (Or.inl ⟨by rfl, ?hyn12_0⟩) (by assumption) ?_
    case hyn12_0 => (intro w hSw; (try dsimp only at hSw); go_simp; (try with_reducible rfl))
    try simp only [Act.put, List.setIfInBounds_toArray, List.set_cons_zero, List.set_cons_succ]
    refine regTake (i := 1) (v := ?vn12_1) rfl (by kernel_rfl) (by kernel_rfl) (by kernel_rfl) (fun _ _ _ h => h) (Or.inl ⟨by rfl, ?hyn12_1⟩) (by assumption) ?_
    case hyn12_1 => (intro w hSw; (try dsimp only at hSw); go_simp; (try with_reducible rfl))
    try simp only [Act.put, List.setIfInBounds_toArray, List.set_cons_zero, List.set_cons_succ]
    refine regTake (i := 2) (v := ?vn12_2) rfl (by kernel_rfl) (by kernel_rfl) (by kernel_rfl) (fun _ _ _ h => h) (Or.inl ⟨by rfl, ?hyn12_2⟩) (by assumption) ?_
    case hyn12_2 => (intro w hSw; (try dsimp only at hSw); go_simp; (try with_reducible rfl))
    try simp only [Act.put, List.setIfInBounds_toArray, List.set_cons_zero, List.set_cons_succ]
    refine regTake (i := 3) (v := ?vn12_3) rfl (by kernel_rfl) (by kernel_rfl) (by kernel_rfl) (fun _ _ _ h => h) (Or.inl ⟨by rfl, ?hyn12_3⟩) (by assumption) ?_
    case hyn12_3 => (intro w hSw; (try dsimp only at hSw); go_simp; (try with_reducible rfl))
    try simp only [Act.put, List.setIfInBounds_toArray, List.set_cons_zero, List.set_cons_succ]
    refine regTake (i := 4) (v := ?vn12_4) rfl (by kernel_rfl) (by kernel_rfl) (by kernel_rfl) (fun _ _ _ h => h) (Or.inl ⟨by rfl, ?hyn12_4⟩) (by assumption) ?_
    case hyn12_4 => (intro w hSw; (try dsimp only at hSw); go_simp; (try with_reducible rfl))
    try simp only [Act.put, List.setIfInBounds_toArray, List.set_cons_zero, List.set_cons_succ]
    refine regTake (i := 5) (v := ?vn12_5) rfl (by kernel_rfl) (by kernel_rfl) (by kernel_rfl) (fun _ _ _ h => h) (Or.inl ⟨by rfl, ?hyn12_5⟩) (by assumption) ?_
    case hyn12_5 => (intro w hSw; (try dsimp only at hSw); go_simp; (try with_reducible rfl))
    try simp only [Act.put, List.setIfInBounds_toArray, List.set_cons_zero, List.set_cons_succ]
    refine regTake (i := 6) (v := ?vn12_6) rfl (by kernel_rfl) (by kernel_rfl) (by kernel_rfl) (fun _ _ _ h => h) (Or.inl ⟨by rfl, ?hyn12_6⟩) (by assumption) ?_
    case hyn12_6 => (intro w hSw; (try dsimp only at hSw); go_simp; (try with_reducible rfl))
    try simp only [Act.put, List.setIfInBounds_toArray, List.set_cons_zero, List.set_cons_succ]
    refine regTake (i := 7) (v := ?vn12_7) rfl (by kernel_rfl) (by kernel_rfl) (by kernel_rfl) (fun _ _ _ h => h) (Or.inl ⟨by rfl, ?hyn12_7⟩) (by assumption) ?_
    case hyn12_7 => (intro w hSw; (try dsimp only at hSw); go_simp; (try with_reducible rfl))
    try simp only [Act.put, List.setIfInBounds_toArray, List.set_cons_zero, List.set_cons_succ]
    refine regTake (i := 8) (v := ?vn12_8) rfl (by kernel_rfl) (by kernel_rfl) (by kernel_rfl) (fun _ _ _ h => h) (Or.inl ⟨by rfl, ?hyn12_8⟩) (by assumption) ?_
    case hyn12_8 => (intro w hSw; (try dsimp only at hSw); go_simp; (try with_reducible rfl))
    try simp only [Act.put, List.setIfInBounds_toArray, List.set_cons_zero, List.set_cons_succ]
    refine regTake (i := 9) (v := ?vn12_9) rfl (by kernel_rfl) (by kernel_rfl) (by kernel_rfl) (fun _ _ _ h => h) (Or.inl ⟨by rfl, ?hyn12_9⟩) (by assumption) ?_
    case hyn12_9 => (intro w hSw; (try dsimp only at hSw); go_simp; (try with_reducible rfl))
    try simp only [Act.put, List.setIfInBounds_toArray, List.set_cons_zero, List.set_cons_succ]
    refine regTake (i := 10) (v := ?vn12_10) rfl (by kernel_rfl) (by kernel_rfl) (by kernel_rfl) (fun _ _ _ h => h) (Or.inl ⟨by rfl, ?hyn12_10⟩) (by assumption) ?_
    case hyn12_10 => (intro w hSw; (try dsimp only at hSw); go_simp; (try with_reducible rfl))
    try simp only [Act.put, List.setIfInBounds_toArray, List.set_cons_zero, List.set_cons_succ]
    refine regTake (i := 11) (v := ?vn12_11) rfl (by kernel_rfl) (by kernel_rfl) (by kernel_rfl) (fun _ _ _ h => h) (Or.inl ⟨by rfl, ?hyn12_11⟩) (by assumption) ?_
    case hyn12_11 => (intro w hSw; (try dsimp only at hSw); go_simp; (try with_reducible rfl))
    try simp only [Act.put, List.setIfInBounds_toArray, List.set_cons_zero, List.set_cons_succ]
    refine wpAnyH_ready (rs := [12]) (by kernel_rfl) (by simp) ?_
    refine regCons rfl (fun K hK => ?_)
    go_simp
    refine (HIH.out x x' _ _ _ _ _ HP.out.1 HP.out.2.2.1 (H.out.1.below (below_drew _)) (H.out.2.2.1.below (below_drew _))).mono ?_
    rw [HA.out]
    rintro e w1 ⟨rfl, hb1⟩
    have hk0 := below_trans (below_drew ((w.alloc (Obj.cells #[.int .i64 5, .slice (some ⟨bf, of, none⟩) 2 cf] 25)).alloc (Obj.cells #[.int .i64 5, .slice (some ⟨bt, ot, none⟩) 2 ct] 25))) hb1
    refine hK.out _ _ ?_ (fun hS1 => ?_)
    · (refine (fun hB => ⟨hB, cell_keep x0 hB, cell_keep x1 hB, cell_keep x2 hB, cell_keep x3 hB, cell_keep d0 hB, cell_keep d1 hB, cell_keep d2 hB, cell_keep d3 hB, cell_keep e0 hB, cell_keep e1 hB, cell_keep e2 hB, cell_keep e3 hB⟩ : Below (((w.alloc (Obj.cells #[.int .i64 5, .slice (some ⟨bf, of, none⟩) 2 cf] 25)).alloc (Obj.cells #[.int .i64 5, .slice (some ⟨bt, ot, none⟩) 2 ct] 25))).heap.size ((w.alloc (Obj.cells #[.int .i64 5, .slice (some ⟨bf, of, none⟩) 2 cf] 25)).alloc (Obj.cells #[.int .i64 5, .slice (some ⟨bt, ot, none⟩) 2 ct] 25)) _ → _) ?_; exact hk0)
    clear hK K hS0
    try simp only [Act.put, List.setIfInBounds_toArray, List.set_cons_zero, List.set_cons_succ]
    refine regTake (i := 13) (v := ?vn12_13) rfl (by kernel_rfl) (by kernel_rfl) (by kernel_rfl) (fun _ _ _ h => h) (Or.inl ⟨by rfl, ?hyn12_13⟩) (by assumption) ?_
    case hyn12_13 => (intro w hSw; (try dsimp only at hSw); go_simp; (try with_reducible rfl))
    try simp only [Act.put, List.setIfInBounds_toArray, List.set_cons_zero, List.set_cons_succ]
    refine regTake (i := 14) (v := ?vn12_14) rfl (by kernel_rfl) (by kernel_rfl) (by kernel_rfl) (fun _ _ _ h => h) (Or.inl ⟨by rfl, ?hyn12_14⟩) (by assumption) ?_
    case hyn12_14 => (intro w hSw; (try dsimp only at hSw); go_simp; (try with_reducible rfl))
    try simp only [Act.put, List.setIfInBounds_toArray, List.set_cons_zero, List.set_cons_succ]
    refine regTake (i := 15) (v := ?vn12_15) rfl (by kernel_rfl) (by kernel_rfl) (by kernel_rfl) (fun _ _ _ h => h) (Or.inl ⟨by rfl, ?hyn12_15⟩) (by assumption) ?_
    case hyn12_15 => (intro w hSw; (try dsimp only at hSw); go_simp; (try with_reducible rfl))
    try simp only [Act.put, List.setIfInBounds_toArray, List.set_cons_zero, List.set_cons_succ]
    refine regTake (i := 16) (v := ?vn12_16) rfl (by kernel_rfl) (by kernel_rfl) (by kernel_rfl) (fun _ _ _ h => h) (Or.inl ⟨by rfl, ?hyn12_16⟩) (by assumption) ?_
    case hyn12_16 => (intro w hSw; (try dsimp only at hSw); go_simp; (try with_reducible rfl))
    try simp only [Act.put, List.setIfInBounds_toArray, List.set_cons_zero, List.set_cons_succ]
    refine regTake (i := 17) (v := ?vn12_17) rfl (by kernel_rfl) (by kernel_rfl) (by kernel_rfl) (fun _ _ _ h => h) (Or.inl ⟨by rfl, ?hyn12_17⟩) (by assumption) ?_
    case hyn12_17 => (intro w hSw; (try dsimp only at hSw); go_simp; (try with_reducible rfl))
    try simp only [Act.put, List.setIfInBounds_toArray, List.set_cons_zero, List.set_cons_succ]
    refine regTake (i := 18) (v := ?vn12_18) rfl (by kernel_rfl) (by kernel_rfl) (by kernel_rfl) (fun _ _ _ h => h) (Or.inl ⟨by rfl, ?hyn12_18⟩) (by assumption) ?_
    case hyn12_18 => (intro w hSw; (try dsimp only at hSw); go_simp; (try with_reducible rfl))
    try simp only [Act.put, List.setIfInBounds_toArray, List.set_cons_zero, List.set_cons_succ]
    refine regTake (i := 19) (v := ?vn12_19) rfl (by kernel_rfl) (by kernel_rfl) (by kernel_rfl) (fun _ _ _ h => h) (Or.inl ⟨by rfl, ?hyn12_19⟩) (by assumption) ?_
    case hyn12_19 => (intro w hSw; (try dsimp only at hSw); go_simp; (try with_reducible rfl))
    try simp only [Act.put, List.setIfInBounds_toArray, List.set_cons_zero, List.set_cons_succ]
    refine regTake (i := 20) (v := ?vn12_20) rfl (by kernel_rfl) (by kernel_rfl) (by kernel_rfl) (fun _ _ _ h => h) (Or.inl ⟨by rfl, ?hyn12_20⟩) (by assumption) ?_
    case hyn12_20 => (intro w hSw; (try dsimp only at hSw); go_simp; (try with_reducible rfl))
    try simp only [Act.put, List.setIfInBounds_toArray, List.set_cons_zero, List.set_cons_succ]
    refine regTake (i := 21) (v := ?vn12_21) rfl (by kernel_rfl) (by kernel_rfl) (by kernel_rfl) (fun _ _ _ h => h) (Or.inl ⟨by rfl, ?hyn12_21⟩) (by assumption) ?_
    case hyn12_21 => (intro w hSw; (try dsimp only at hSw); go_simp; (try with_reducible rfl))
    try simp only [Act.put, List.setIfInBounds_toArray, List.set_cons_zero, List.set_cons_succ]
    refine wpAnyH_ready (rs := [22]) (by kernel_rfl) (by simp) ?_
    refine regCons rfl (fun K hK => ?_)
    go_simp
    refine (HIH.out y y' _ _ _ _ _ HP.out.2.1 HP.out.2.2.2 (H.out.2.1.below hk0) (H.out.2.2.2.below hk0)).mono ?_
    rw [HB.out]
    rintro e w2 ⟨rfl, hb2⟩
    have hk1 := below_trans hk0 hb2
    refine hK.out _ _ ?_ (fun hS2 => ?_)
    · (refine (fun hB => ⟨hB, cell_keep x0 hB, cell_keep x1 hB, cell_keep x2 hB, cell_keep x3 hB, cell_keep d0 hB, cell_keep d1 hB, cell_keep d2 hB, cell_keep d3 hB, cell_keep e0 hB, cell_keep e1 hB, cell_keep e2 hB, cell_keep e3 hB⟩ : Below (((w.alloc (Obj.cells #[.int .i64 5, .slice (some ⟨bf, of, none⟩) 2 cf] 25)).alloc (Obj.cells #[.int .i64 5, .slice (some ⟨bt, ot, none⟩) 2 ct] 25))).heap.size ((w.alloc (Obj.cells #[.int .i64 5, .slice (some ⟨bf, of, none⟩) 2 cf] 25)).alloc (Obj.cells #[.int .i64 5, .slice (some ⟨bt, ot, none⟩) 2 ct] 25)) _ → _) ?_; exact hk1)
    clear hK K hS1
    try simp only [Act.put, List.setIfInBounds_toArray, List.set_cons_zero, List.set_cons_succ]
    refine regTake (i := 23) (v := .bool B) rfl (by kernel_rfl) (by kernel_rfl) (by kernel_rfl) (fun _ _ _ h => h) (Or.inl ⟨by rfl, ?hyn12_23⟩) (by assumption) ?_
    case hyn12_23 => (intro w hSw; (try dsimp only at hSw); go_simp; (try with_reducible rfl))
    try simp only [Act.put, List.setIfInBounds_toArray, List.set_cons_zero, List.set_cons_succ]
    refine regTake (i := 24) (v := .bool B) rfl (by kernel_rfl) (by kernel_rfl) (by kernel_rfl) (fun _ _ _ h => h) (Or.inl ⟨by rfl, ?hyn12_24⟩) (by assumption) ?_
    case hyn12_24 => (intro w hSw; (try dsimp only at hSw); go_simp; (try with_reducible rfl))
    try simp only [Act.put, List.setIfInBounds_toArray, List.set_cons_zero, List.set_cons_succ]
    refine regTake (i := 25) (v := ?vn12_25) rfl (by kernel_rfl) (by kernel_rfl) (by kernel_rfl) (fun _ _ _ h => h) (Or.inl ⟨by rfl, ?hyn12_25⟩) (by assumption) ?_
    case hyn12_25 => (intro w hSw; (try dsimp only at hSw); go_simp; (try with_reducible rfl))
    try simp only [Act.put, List.setIfInBounds_toArray, List.set_cons_zero, List.set_cons_succ]
    refine wpAnyH_done (by kernel_rfl) ?_ _
    go_wp2_with fail
    go_ret
    exact ⟨ret_b rfl, below_trans hb0 (hk1)⟩

theorem neg8_same (d : Nat) (ih : NeC d) (ihn : PoC d) (a b : Ty) (h : SameK d a b) (v1 v2 : Value) (f1 f2 : List Nat) (w : World) (h1 : a.At w v1 f1) (h2 : b.At w v2 f2) :
    Calls Try.prog 95 #[v1, v2] w (fun e w' => e = .returned (.bool (subS (sub d) (-1) (kindT a) (kidsT8 a) (kidsT8 b))) ∧ Below w.heap.size w w') := by
  cases h with
  | leaf k hk => exact neg_leaf k hk v1 v2 f1 f2 w h1 h2
  | two k x y x' y' hk hx hy hx' hy' =>
    rcases hk with rfl | rfl
    · exact neg_two4 d ih ihn x y x' y' v1 v2 f1 f2 w hx hy hx' hy' h1 h2
    · exact neg_two5 d ih x y x' y' v1 v2 f1 f2 w hx hy hx' hy' h1 h2

set_option maxRecDepth 100000 in
set_option maxHeartbeats 2000000 in
theorem sub_leaf (k : Int) (hk : k = 2 ∨ k = 3) (v1 v2 : Value) (f1 f2 : List Nat) (w : World) (h1 : (Ty.mk k []).At w v1 f1) (h2 : (Ty.mk k []).At w v2 f2) :
    Calls Try.prog 93 #[v1, v2] w (fun e w' => e = .returned (.bool (true)) ∧ Below w.heap.size w w') := by
  obtain ⟨s1, rfl, hs1⟩ := Ty.at_mk.1 h1
  obtain ⟨s2, rfl, hs2⟩ := Ty.at_mk.1 h2
  obtain ⟨a1, c1, rfl⟩ := hs1.none8
  obtain ⟨a2, c2, rfl⟩ := hs2.none8
  clear h1 h2 hs1 hs2
  rcases hk with rfl | rfl
  · have hb0 : Below w.heap.size w ((w.alloc (Obj.cells #[.int .i64 2, .slice a1 0 c1] 25)).alloc (Obj.cells #[.int .i64 2, .slice a2 0 c2] 25)) := ((Below.refl _ _).alloc (Nat.le_refl _) _).alloc (by simp) _
    obtain ⟨x0, x1, x2, x3⟩ := box_cells2 (Below.refl (((w.alloc (Obj.cells #[.int .i64 2, .slice a1 0 c1] 25)).alloc (Obj.cells #[.int .i64 2, .slice a2 0 c2] 25))).heap.size ((w.alloc (Obj.cells #[.int .i64 2, .slice a1 0 c1] 25)).alloc (Obj.cells #[.int .i64 2, .slice a2 0 c2] 25)))
    go_enter Try.func93, Try.ntmps93
    go_wp2_with fail
    refine wp_region_held_drew (S := (fun w' => Below (((w.alloc (Obj.cells #[.int .i64 2, .slice a1 0 c1] 25)).alloc (Obj.cells #[.int .i64 2, .slice a2 0 c2] 25))).heap.size ((w.alloc (Obj.cells #[.int .i64 2, .slice a1 0 c1] 25)).alloc (Obj.cells #[.int .i64 2, .slice a2 0 c2] 25)) w' ∧ w'.cell? ⟨w.heap.size, 0, none⟩ = some (.int .i64 2) ∧ w'.cell? ⟨w.heap.size, 1, none⟩ = some (.slice a1 0 c1) ∧ w'.cell? ⟨w.heap.size + 1, 0, none⟩ = some (.int .i64 2) ∧ w'.cell? ⟨w.heap.size + 1, 1, none⟩ = some (.slice a2 0 c2))) (by kernel_rfl) ?_ (fun hS0 => ?_)
    · (refine (fun hB => ⟨hB, cell_keep x0 hB, cell_keep x1 hB, cell_keep x2 hB, cell_keep x3 hB⟩ : Below (((w.alloc (Obj.cells #[.int .i64 2, .slice a1 0 c1] 25)).alloc (Obj.cells #[.int .i64 2, .slice a2 0 c2] 25))).heap.size ((w.alloc (Obj.cells #[.int .i64 2, .slice a1 0 c1] 25)).alloc (Obj.cells #[.int .i64 2, .slice a2 0 c2] 25)) _ → _) ?_; exact below_drew _)
    refine regTake (i := 0) (v := ?vn13_0) rfl (by kernel_rfl) (by kernel_rfl) (by kernel_rfl) (fun _ _ _ h => h) (Or.inl ⟨by rfl, ?hyn13_0⟩) (by assumption) ?_
    case hyn13_0 => (intro w hSw; (try dsimp only at hSw); go_simp; (try with_reducible rfl))
    try simp only [Act.put, List.setIfInBounds_toArray, List.set_cons_zero, List.set_cons_succ]
    refine regTake (i := 1) (v := ?vn13_1) rfl (by kernel_rfl) (by kernel_rfl) (by kernel_rfl) (fun _ _ _ h => h) (Or.inl ⟨by rfl, ?hyn13_1⟩) (by assumption) ?_
    case hyn13_1 => (intro w hSw; (try dsimp only at hSw); go_simp; (try with_reducible rfl))
    try simp only [Act.put, List.setIfInBounds_toArray, List.set_cons_zero, List.set_cons_succ]
    refine regTake (i := 2) (v := ?vn13_2) rfl (by kernel_rfl) (by kernel_rfl) (by kernel_rfl) (fun _ _ _ h => h) (Or.inl ⟨by rfl, ?hyn13_2⟩) (by assumption) ?_
    case hyn13_2 => (intro w hSw; (try dsimp only at hSw); go_simp; (try with_reducible rfl))
    try simp only [Act.put, List.setIfInBounds_toArray, List.set_cons_zero, List.set_cons_succ]
    refine regTake (i := 3) (v := ?vn13_3) rfl (by kernel_rfl) (by kernel_rfl) (by kernel_rfl) (fun _ _ _ h => h) (Or.inl ⟨by rfl, ?hyn13_3⟩) (by assumption) ?_
    case hyn13_3 => (intro w hSw; (try dsimp only at hSw); go_simp; (try with_reducible rfl))
    try simp only [Act.put, List.setIfInBounds_toArray, List.set_cons_zero, List.set_cons_succ]
    refine regTake (i := 4) (v := undef) rfl (by kernel_rfl) (by kernel_rfl) (by kernel_rfl) (fun _ _ _ h => h) (Or.inr ⟨by rfl, rfl⟩) (by assumption) ?_
    try simp only [Act.put, List.setIfInBounds_toArray, List.set_cons_zero, List.set_cons_succ]
    refine regTake (i := 5) (v := undef) rfl (by kernel_rfl) (by kernel_rfl) (by kernel_rfl) (fun _ _ _ h => h) (Or.inr ⟨by rfl, rfl⟩) (by assumption) ?_
    try simp only [Act.put, List.setIfInBounds_toArray, List.set_cons_zero, List.set_cons_succ]
    refine regTake (i := 6) (v := undef) rfl (by kernel_rfl) (by kernel_rfl) (by kernel_rfl) (fun _ _ _ h => h) (Or.inr ⟨by rfl, rfl⟩) (by assumption) ?_
    try simp only [Act.put, List.setIfInBounds_toArray, List.set_cons_zero, List.set_cons_succ]
    refine regTake (i := 7) (v := undef) rfl (by kernel_rfl) (by kernel_rfl) (by kernel_rfl) (fun _ _ _ h => h) (Or.inr ⟨by rfl, rfl⟩) (by assumption) ?_
    try simp only [Act.put, List.setIfInBounds_toArray, List.set_cons_zero, List.set_cons_succ]
    refine regTake (i := 8) (v := undef) rfl (by kernel_rfl) (by kernel_rfl) (by kernel_rfl) (fun _ _ _ h => h) (Or.inr ⟨by rfl, rfl⟩) (by assumption) ?_
    try simp only [Act.put, List.setIfInBounds_toArray, List.set_cons_zero, List.set_cons_succ]
    refine regTake (i := 9) (v := undef) rfl (by kernel_rfl) (by kernel_rfl) (by kernel_rfl) (fun _ _ _ h => h) (Or.inr ⟨by rfl, rfl⟩) (by assumption) ?_
    try simp only [Act.put, List.setIfInBounds_toArray, List.set_cons_zero, List.set_cons_succ]
    refine regTake (i := 10) (v := undef) rfl (by kernel_rfl) (by kernel_rfl) (by kernel_rfl) (fun _ _ _ h => h) (Or.inr ⟨by rfl, rfl⟩) (by assumption) ?_
    try simp only [Act.put, List.setIfInBounds_toArray, List.set_cons_zero, List.set_cons_succ]
    refine regTake (i := 11) (v := undef) rfl (by kernel_rfl) (by kernel_rfl) (by kernel_rfl) (fun _ _ _ h => h) (Or.inr ⟨by rfl, rfl⟩) (by assumption) ?_
    try simp only [Act.put, List.setIfInBounds_toArray, List.set_cons_zero, List.set_cons_succ]
    refine regTake (i := 12) (v := undef) rfl (by kernel_rfl) (by kernel_rfl) (by kernel_rfl) (fun _ _ _ h => h) (Or.inr ⟨by rfl, rfl⟩) (by assumption) ?_
    try simp only [Act.put, List.setIfInBounds_toArray, List.set_cons_zero, List.set_cons_succ]
    refine regTake (i := 13) (v := undef) rfl (by kernel_rfl) (by kernel_rfl) (by kernel_rfl) (fun _ _ _ h => h) (Or.inr ⟨by rfl, rfl⟩) (by assumption) ?_
    try simp only [Act.put, List.setIfInBounds_toArray, List.set_cons_zero, List.set_cons_succ]
    refine regTake (i := 14) (v := undef) rfl (by kernel_rfl) (by kernel_rfl) (by kernel_rfl) (fun _ _ _ h => h) (Or.inr ⟨by rfl, rfl⟩) (by assumption) ?_
    try simp only [Act.put, List.setIfInBounds_toArray, List.set_cons_zero, List.set_cons_succ]
    refine regTake (i := 15) (v := undef) rfl (by kernel_rfl) (by kernel_rfl) (by kernel_rfl) (fun _ _ _ h => h) (Or.inr ⟨by rfl, rfl⟩) (by assumption) ?_
    try simp only [Act.put, List.setIfInBounds_toArray, List.set_cons_zero, List.set_cons_succ]
    refine regTake (i := 16) (v := undef) rfl (by kernel_rfl) (by kernel_rfl) (by kernel_rfl) (fun _ _ _ h => h) (Or.inr ⟨by rfl, rfl⟩) (by assumption) ?_
    try simp only [Act.put, List.setIfInBounds_toArray, List.set_cons_zero, List.set_cons_succ]
    refine regTake (i := 17) (v := undef) rfl (by kernel_rfl) (by kernel_rfl) (by kernel_rfl) (fun _ _ _ h => h) (Or.inr ⟨by rfl, rfl⟩) (by assumption) ?_
    try simp only [Act.put, List.setIfInBounds_toArray, List.set_cons_zero, List.set_cons_succ]
    refine regTake (i := 18) (v := undef) rfl (by kernel_rfl) (by kernel_rfl) (by kernel_rfl) (fun _ _ _ h => h) (Or.inr ⟨by rfl, rfl⟩) (by assumption) ?_
    try simp only [Act.put, List.setIfInBounds_toArray, List.set_cons_zero, List.set_cons_succ]
    refine regTake (i := 19) (v := undef) rfl (by kernel_rfl) (by kernel_rfl) (by kernel_rfl) (fun _ _ _ h => h) (Or.inr ⟨by rfl, rfl⟩) (by assumption) ?_
    try simp only [Act.put, List.setIfInBounds_toArray, List.set_cons_zero, List.set_cons_succ]
    refine regTake (i := 20) (v := undef) rfl (by kernel_rfl) (by kernel_rfl) (by kernel_rfl) (fun _ _ _ h => h) (Or.inr ⟨by rfl, rfl⟩) (by assumption) ?_
    try simp only [Act.put, List.setIfInBounds_toArray, List.set_cons_zero, List.set_cons_succ]
    refine regTake (i := 21) (v := undef) rfl (by kernel_rfl) (by kernel_rfl) (by kernel_rfl) (fun _ _ _ h => h) (Or.inr ⟨by rfl, rfl⟩) (by assumption) ?_
    try simp only [Act.put, List.setIfInBounds_toArray, List.set_cons_zero, List.set_cons_succ]
    refine regTake (i := 22) (v := undef) rfl (by kernel_rfl) (by kernel_rfl) (by kernel_rfl) (fun _ _ _ h => h) (Or.inr ⟨by rfl, rfl⟩) (by assumption) ?_
    try simp only [Act.put, List.setIfInBounds_toArray, List.set_cons_zero, List.set_cons_succ]
    refine regTake (i := 23) (v := undef) rfl (by kernel_rfl) (by kernel_rfl) (by kernel_rfl) (fun _ _ _ h => h) (Or.inr ⟨by rfl, rfl⟩) (by assumption) ?_
    try simp only [Act.put, List.setIfInBounds_toArray, List.set_cons_zero, List.set_cons_succ]
    refine regTake (i := 24) (v := .bool true) rfl (by kernel_rfl) (by kernel_rfl) (by kernel_rfl) (fun _ _ _ h => h) (Or.inl ⟨by rfl, ?hyn13_24⟩) (by assumption) ?_
    case hyn13_24 => (intro w hSw; (try dsimp only at hSw); go_simp; (try with_reducible rfl))
    try simp only [Act.put, List.setIfInBounds_toArray, List.set_cons_zero, List.set_cons_succ]
    refine regTake (i := 25) (v := ?vn13_25) rfl (by kernel_rfl) (by kernel_rfl) (by kernel_rfl) (fun _ _ _ h => h) (Or.inl ⟨by rfl, ?hyn13_25⟩) (by assumption) ?_
    case hyn13_25 => (intro w hSw; (try dsimp only at hSw); go_simp; (try with_reducible rfl))
    try simp only [Act.put, List.setIfInBounds_toArray, List.set_cons_zero, List.set_cons_succ]
    refine wpAnyH_done (by kernel_rfl) ?_ _
    go_wp2_with fail
    go_ret
    exact ⟨ret_b rfl, below_trans hb0 (below_drew _)⟩
  · have hb0 : Below w.heap.size w ((w.alloc (Obj.cells #[.int .i64 3, .slice a1 0 c1] 25)).alloc (Obj.cells #[.int .i64 3, .slice a2 0 c2] 25)) := ((Below.refl _ _).alloc (Nat.le_refl _) _).alloc (by simp) _
    obtain ⟨x0, x1, x2, x3⟩ := box_cells2 (Below.refl (((w.alloc (Obj.cells #[.int .i64 3, .slice a1 0 c1] 25)).alloc (Obj.cells #[.int .i64 3, .slice a2 0 c2] 25))).heap.size ((w.alloc (Obj.cells #[.int .i64 3, .slice a1 0 c1] 25)).alloc (Obj.cells #[.int .i64 3, .slice a2 0 c2] 25)))
    go_enter Try.func93, Try.ntmps93
    go_wp2_with fail
    refine wp_region_held_drew (S := (fun w' => Below (((w.alloc (Obj.cells #[.int .i64 3, .slice a1 0 c1] 25)).alloc (Obj.cells #[.int .i64 3, .slice a2 0 c2] 25))).heap.size ((w.alloc (Obj.cells #[.int .i64 3, .slice a1 0 c1] 25)).alloc (Obj.cells #[.int .i64 3, .slice a2 0 c2] 25)) w' ∧ w'.cell? ⟨w.heap.size, 0, none⟩ = some (.int .i64 3) ∧ w'.cell? ⟨w.heap.size, 1, none⟩ = some (.slice a1 0 c1) ∧ w'.cell? ⟨w.heap.size + 1, 0, none⟩ = some (.int .i64 3) ∧ w'.cell? ⟨w.heap.size + 1, 1, none⟩ = some (.slice a2 0 c2))) (by kernel_rfl) ?_ (fun hS0 => ?_)
    · (refine (fun hB => ⟨hB, cell_keep x0 hB, cell_keep x1 hB, cell_keep x2 hB, cell_keep x3 hB⟩ : Below (((w.alloc (Obj.cells #[.int .i64 3, .slice a1 0 c1] 25)).alloc (Obj.cells #[.int .i64 3, .slice a2 0 c2] 25))).heap.size ((w.alloc (Obj.cells #[.int .i64 3, .slice a1 0 c1] 25)).alloc (Obj.cells #[.int .i64 3, .slice a2 0 c2] 25)) _ → _) ?_; exact below_drew _)
    refine regTake (i := 0) (v := ?vn14_0) rfl (by kernel_rfl) (by kernel_rfl) (by kernel_rfl) (fun _ _ _ h => h) (Or.inl ⟨by rfl, ?hyn14_0⟩) (by assumption) ?_
    case hyn14_0 => (intro w hSw; (try dsimp only at hSw); go_simp; (try with_reducible rfl))
    try simp only [Act.put, List.setIfInBounds_toArray, List.set_cons_zero, List.set_cons_succ]
    refine regTake (i := 1) (v := ?vn14_1) rfl (by kernel_rfl) (by kernel_rfl) (by kernel_rfl) (fun _ _ _ h => h) (Or.inl ⟨by rfl, ?hyn14_1⟩) (by assumption) ?_
    case hyn14_1 => (intro w hSw; (try dsimp only at hSw); go_simp; (try with_reducible rfl))
    try simp only [Act.put, List.setIfInBounds_toArray, List.set_cons_zero, List.set_cons_succ]
    refine regTake (i := 2) (v := ?vn14_2) rfl (by kernel_rfl) (by kernel_rfl) (by kernel_rfl) (fun _ _ _ h => h) (Or.inl ⟨by rfl, ?hyn14_2⟩) (by assumption) ?_
    case hyn14_2 => (intro w hSw; (try dsimp only at hSw); go_simp; (try with_reducible rfl))
    try simp only [Act.put, List.setIfInBounds_toArray, List.set_cons_zero, List.set_cons_succ]
    refine regTake (i := 3) (v := ?vn14_3) rfl (by kernel_rfl) (by kernel_rfl) (by kernel_rfl) (fun _ _ _ h => h) (Or.inl ⟨by rfl, ?hyn14_3⟩) (by assumption) ?_
    case hyn14_3 => (intro w hSw; (try dsimp only at hSw); go_simp; (try with_reducible rfl))
    try simp only [Act.put, List.setIfInBounds_toArray, List.set_cons_zero, List.set_cons_succ]
    refine regTake (i := 4) (v := undef) rfl (by kernel_rfl) (by kernel_rfl) (by kernel_rfl) (fun _ _ _ h => h) (Or.inr ⟨by rfl, rfl⟩) (by assumption) ?_
    try simp only [Act.put, List.setIfInBounds_toArray, List.set_cons_zero, List.set_cons_succ]
    refine regTake (i := 5) (v := undef) rfl (by kernel_rfl) (by kernel_rfl) (by kernel_rfl) (fun _ _ _ h => h) (Or.inr ⟨by rfl, rfl⟩) (by assumption) ?_
    try simp only [Act.put, List.setIfInBounds_toArray, List.set_cons_zero, List.set_cons_succ]
    refine regTake (i := 6) (v := undef) rfl (by kernel_rfl) (by kernel_rfl) (by kernel_rfl) (fun _ _ _ h => h) (Or.inr ⟨by rfl, rfl⟩) (by assumption) ?_
    try simp only [Act.put, List.setIfInBounds_toArray, List.set_cons_zero, List.set_cons_succ]
    refine regTake (i := 7) (v := undef) rfl (by kernel_rfl) (by kernel_rfl) (by kernel_rfl) (fun _ _ _ h => h) (Or.inr ⟨by rfl, rfl⟩) (by assumption) ?_
    try simp only [Act.put, List.setIfInBounds_toArray, List.set_cons_zero, List.set_cons_succ]
    refine regTake (i := 8) (v := undef) rfl (by kernel_rfl) (by kernel_rfl) (by kernel_rfl) (fun _ _ _ h => h) (Or.inr ⟨by rfl, rfl⟩) (by assumption) ?_
    try simp only [Act.put, List.setIfInBounds_toArray, List.set_cons_zero, List.set_cons_succ]
    refine regTake (i := 9) (v := undef) rfl (by kernel_rfl) (by kernel_rfl) (by kernel_rfl) (fun _ _ _ h => h) (Or.inr ⟨by rfl, rfl⟩) (by assumption) ?_
    try simp only [Act.put, List.setIfInBounds_toArray, List.set_cons_zero, List.set_cons_succ]
    refine regTake (i := 10) (v := undef) rfl (by kernel_rfl) (by kernel_rfl) (by kernel_rfl) (fun _ _ _ h => h) (Or.inr ⟨by rfl, rfl⟩) (by assumption) ?_
    try simp only [Act.put, List.setIfInBounds_toArray, List.set_cons_zero, List.set_cons_succ]
    refine regTake (i := 11) (v := undef) rfl (by kernel_rfl) (by kernel_rfl) (by kernel_rfl) (fun _ _ _ h => h) (Or.inr ⟨by rfl, rfl⟩) (by assumption) ?_
    try simp only [Act.put, List.setIfInBounds_toArray, List.set_cons_zero, List.set_cons_succ]
    refine regTake (i := 12) (v := undef) rfl (by kernel_rfl) (by kernel_rfl) (by kernel_rfl) (fun _ _ _ h => h) (Or.inr ⟨by rfl, rfl⟩) (by assumption) ?_
    try simp only [Act.put, List.setIfInBounds_toArray, List.set_cons_zero, List.set_cons_succ]
    refine regTake (i := 13) (v := undef) rfl (by kernel_rfl) (by kernel_rfl) (by kernel_rfl) (fun _ _ _ h => h) (Or.inr ⟨by rfl, rfl⟩) (by assumption) ?_
    try simp only [Act.put, List.setIfInBounds_toArray, List.set_cons_zero, List.set_cons_succ]
    refine regTake (i := 14) (v := undef) rfl (by kernel_rfl) (by kernel_rfl) (by kernel_rfl) (fun _ _ _ h => h) (Or.inr ⟨by rfl, rfl⟩) (by assumption) ?_
    try simp only [Act.put, List.setIfInBounds_toArray, List.set_cons_zero, List.set_cons_succ]
    refine regTake (i := 15) (v := undef) rfl (by kernel_rfl) (by kernel_rfl) (by kernel_rfl) (fun _ _ _ h => h) (Or.inr ⟨by rfl, rfl⟩) (by assumption) ?_
    try simp only [Act.put, List.setIfInBounds_toArray, List.set_cons_zero, List.set_cons_succ]
    refine regTake (i := 16) (v := undef) rfl (by kernel_rfl) (by kernel_rfl) (by kernel_rfl) (fun _ _ _ h => h) (Or.inr ⟨by rfl, rfl⟩) (by assumption) ?_
    try simp only [Act.put, List.setIfInBounds_toArray, List.set_cons_zero, List.set_cons_succ]
    refine regTake (i := 17) (v := undef) rfl (by kernel_rfl) (by kernel_rfl) (by kernel_rfl) (fun _ _ _ h => h) (Or.inr ⟨by rfl, rfl⟩) (by assumption) ?_
    try simp only [Act.put, List.setIfInBounds_toArray, List.set_cons_zero, List.set_cons_succ]
    refine regTake (i := 18) (v := undef) rfl (by kernel_rfl) (by kernel_rfl) (by kernel_rfl) (fun _ _ _ h => h) (Or.inr ⟨by rfl, rfl⟩) (by assumption) ?_
    try simp only [Act.put, List.setIfInBounds_toArray, List.set_cons_zero, List.set_cons_succ]
    refine regTake (i := 19) (v := undef) rfl (by kernel_rfl) (by kernel_rfl) (by kernel_rfl) (fun _ _ _ h => h) (Or.inr ⟨by rfl, rfl⟩) (by assumption) ?_
    try simp only [Act.put, List.setIfInBounds_toArray, List.set_cons_zero, List.set_cons_succ]
    refine regTake (i := 20) (v := undef) rfl (by kernel_rfl) (by kernel_rfl) (by kernel_rfl) (fun _ _ _ h => h) (Or.inr ⟨by rfl, rfl⟩) (by assumption) ?_
    try simp only [Act.put, List.setIfInBounds_toArray, List.set_cons_zero, List.set_cons_succ]
    refine regTake (i := 21) (v := undef) rfl (by kernel_rfl) (by kernel_rfl) (by kernel_rfl) (fun _ _ _ h => h) (Or.inr ⟨by rfl, rfl⟩) (by assumption) ?_
    try simp only [Act.put, List.setIfInBounds_toArray, List.set_cons_zero, List.set_cons_succ]
    refine regTake (i := 22) (v := undef) rfl (by kernel_rfl) (by kernel_rfl) (by kernel_rfl) (fun _ _ _ h => h) (Or.inr ⟨by rfl, rfl⟩) (by assumption) ?_
    try simp only [Act.put, List.setIfInBounds_toArray, List.set_cons_zero, List.set_cons_succ]
    refine regTake (i := 23) (v := undef) rfl (by kernel_rfl) (by kernel_rfl) (by kernel_rfl) (fun _ _ _ h => h) (Or.inr ⟨by rfl, rfl⟩) (by assumption) ?_
    try simp only [Act.put, List.setIfInBounds_toArray, List.set_cons_zero, List.set_cons_succ]
    refine regTake (i := 24) (v := .bool true) rfl (by kernel_rfl) (by kernel_rfl) (by kernel_rfl) (fun _ _ _ h => h) (Or.inl ⟨by rfl, ?hyn14_24⟩) (by assumption) ?_
    case hyn14_24 => (intro w hSw; (try dsimp only at hSw); go_simp; (try with_reducible rfl))
    try simp only [Act.put, List.setIfInBounds_toArray, List.set_cons_zero, List.set_cons_succ]
    refine regTake (i := 25) (v := ?vn14_25) rfl (by kernel_rfl) (by kernel_rfl) (by kernel_rfl) (fun _ _ _ h => h) (Or.inl ⟨by rfl, ?hyn14_25⟩) (by assumption) ?_
    case hyn14_25 => (intro w hSw; (try dsimp only at hSw); go_simp; (try with_reducible rfl))
    try simp only [Act.put, List.setIfInBounds_toArray, List.set_cons_zero, List.set_cons_succ]
    refine wpAnyH_done (by kernel_rfl) ?_ _
    go_wp2_with fail
    go_ret
    exact ⟨ret_b rfl, below_trans hb0 (below_drew _)⟩

set_option maxRecDepth 100000 in
set_option maxHeartbeats 4000000 in
theorem sub_two4 (d : Nat) (ih : SuC d) (x y x' y' : Ty) (v1 v2 : Value) (f1 f2 : List Nat) (w : World) (hx : shp d x = true) (hy : shp d y = true) (hx' : shp d x' = true) (hy' : shp d y' = true) (h1 : (Ty.mk 4 [x, y]).At w v1 f1) (h2 : (Ty.mk 4 [x', y']).At w v2 f2) :
    Calls Try.prog 93 #[v1, v2] w (fun e w' => e = .returned (.bool (sub d (0) x' x && sub d 0 y y')) ∧ Below w.heap.size w w') := by
  obtain ⟨s1, rfl, hs1⟩ := Ty.at_mk.1 h1
  obtain ⟨s2, rfl, hs2⟩ := Ty.at_mk.1 h2
  obtain ⟨bf, of, cf, k1, n1, a1, c1, k2, n2, a2, c2, g1, g2, rfl, hbf, d0, d1, d2, d3, hX1, hX2, _, hcf⟩ := hs1.two
  obtain ⟨bt, ot, ct, k3, n3, a3, c3, k4, n4, a4, c4, g3, g4, rfl, hbt, e0, e1, e2, e3, hY1, hY2, _, hct⟩ := hs2.two
  have hb0 : Below w.heap.size w ((w.alloc (Obj.cells #[.int .i64 4, .slice (some ⟨bf, of, none⟩) 2 cf] 25)).alloc (Obj.cells #[.int .i64 4, .slice (some ⟨bt, ot, none⟩) 2 ct] 25)) := ((Below.refl _ _).alloc (Nat.le_refl _) _).alloc (by simp) _
  obtain ⟨x0, x1, x2, x3⟩ := box_cells2 (Below.refl (((w.alloc (Obj.cells #[.int .i64 4, .slice (some ⟨bf, of, none⟩) 2 cf] 25)).alloc (Obj.cells #[.int .i64 4, .slice (some ⟨bt, ot, none⟩) 2 ct] 25))).heap.size ((w.alloc (Obj.cells #[.int .i64 4, .slice (some ⟨bf, of, none⟩) 2 cf] 25)).alloc (Obj.cells #[.int .i64 4, .slice (some ⟨bt, ot, none⟩) 2 ct] 25)))
  replace d0 := cell_keep d0 hb0
  replace d1 := cell_keep d1 hb0
  replace d2 := cell_keep d2 hb0
  replace d3 := cell_keep d3 hb0
  replace e0 := cell_keep e0 hb0
  replace e1 := cell_keep e1 hb0
  replace e2 := cell_keep e2 hb0
  replace e3 := cell_keep e3 hb0
  have H := hid (And.intro (hX1.below hb0) (And.intro (hX2.below hb0) (And.intro (hY1.below hb0) (hY2.below hb0))))
  have HP := hid (And.intro hx (And.intro hy (And.intro hx' hy')))
  have HIH := hid ih
  clear ih h1 h2 hs1 hs2 hX1 hX2 hY1 hY2 hx hy hx' hy'
  generalize hA : sub d (0) x' x = A at *
  generalize hB : sub d 0 y y' = B at *
  have HA := hid hA
  have HB := hid hB
  clear hA hB
  cases A
  · go_enter Try.func93, Try.ntmps93
    go_wp2_with fail
    refine wp_region_held_drew (S := (fun w' => Below (((w.alloc (Obj.cells #[.int .i64 4, .slice (some ⟨bf, of, none⟩) 2 cf] 25)).alloc (Obj.cells #[.int .i64 4, .slice (some ⟨bt, ot, none⟩) 2 ct] 25))).heap.size ((w.alloc (Obj.cells #[.int .i64 4, .slice (some ⟨bf, of, none⟩) 2 cf] 25)).alloc (Obj.cells #[.int .i64 4, .slice (some ⟨bt, ot, none⟩) 2 ct] 25)) w' ∧ w'.cell? ⟨w.heap.size, 0, none⟩ = some (.int .i64 4) ∧ w'.cell? ⟨w.heap.size, 1, none⟩ = some (.slice (some ⟨bf, of, none⟩) 2 cf) ∧ w'.cell? ⟨w.heap.size + 1, 0, none⟩ = some (.int .i64 4) ∧ w'.cell? ⟨w.heap.size + 1, 1, none⟩ = some (.slice (some ⟨bt, ot, none⟩) 2 ct) ∧ w'.cell? ⟨bf, of, none⟩ = some (.int .i64 k1) ∧ w'.cell? ⟨bf, of + 1, none⟩ = some (.slice a1 n1 c1) ∧ w'.cell? ⟨bf, of + 2, none⟩ = some (.int .i64 k2) ∧ w'.cell? ⟨bf, of + 2 + 1, none⟩ = some (.slice a2 n2 c2) ∧ w'.cell? ⟨bt, ot, none⟩ = some (.int .i64 k3) ∧ w'.cell? ⟨bt, ot + 1, none⟩ = some (.slice a3 n3 c3) ∧ w'.cell? ⟨bt, ot + 2, none⟩ = some (.int .i64 k4) ∧ w'.cell? ⟨bt, ot + 2 + 1, none⟩ = some (.slice a4 n4 c4))) (by kernel_rfl) ?_ (fun hS0 => ?_)
    · (refine (fun hB => ⟨hB, cell_keep x0 hB, cell_keep x1 hB, cell_keep x2 hB, cell_keep x3 hB, cell_keep d0 hB, cell_keep d1 hB, cell_keep d2 hB, cell_keep d3 hB, cell_keep e0 hB, cell_keep e1 hB, cell_keep e2 hB, cell_keep e3 hB⟩ : Below (((w.alloc (Obj.cells #[.int .i64 4, .slice (some ⟨bf, of, none⟩) 2 cf] 25)).alloc (Obj.cells #[.int .i64 4, .slice (some ⟨bt, ot, none⟩) 2 ct] 25))).heap.size ((w.alloc (Obj.cells #[.int .i64 4, .slice (some ⟨bf, of, none⟩) 2 cf] 25)).alloc (Obj.cells #[.int .i64 4, .slice (some ⟨bt, ot, none⟩) 2 ct] 25)) _ → _) ?_; exact below_drew _)
    refine regTake (i := 0) (v := ?vn15_0) rfl (by kernel_rfl) (by kernel_rfl) (by kernel_rfl) (fun _ _ _ h => h) (Or.inl ⟨by rfl, ?hyn15_0⟩) (by assumption) ?_
    case hyn15_0 => (intro w hSw; (try dsimp only at hSw); go_simp; (try with_reducible rfl))
    try simp only [Act.put, List.setIfInBounds_toArray, List.set_cons_zero, List.set_cons_succ]
    refine regTake (i := 1) (v := ?vn15_1) rfl (by kernel_rfl) (by kernel_rfl) (by kernel_rfl) (fun _ _ _ h => h) (Or.inl ⟨by rfl, ?hyn15_1⟩) (by assumption) ?_
    case hyn15_1 => (intro w hSw; (try dsimp only at hSw); go_simp; (try with_reducible rfl))
    try simp only [Act.put, List.setIfInBounds_toArray, List.set_cons_zero, List.set_cons_succ]
    refine regTake (i := 2) (v := ?vn15_2) rfl (by kernel_rfl) (by kernel_rfl) (by kernel_rfl) (fun _ _ _ h => h) (Or.inl ⟨by rfl, ?hyn15_2⟩) (by assumption) ?_
    case hyn15_2 => (intro w hSw; (try dsimp only at hSw); go_simp; (try with_reducible rfl))
    try simp only [Act.put, List.setIfInBounds_toArray, List.set_cons_zero, List.set_cons_succ]
    refine regTake (i := 3) (v := ?vn15_3) rfl (by kernel_rfl) (by kernel_rfl) (by kernel_rfl) (fun _ _ _ h => h) (Or.inl ⟨by rfl, ?hyn15_3⟩) (by assumption) ?_
    case hyn15_3 => (intro w hSw; (try dsimp only at hSw); go_simp; (try with_reducible rfl))
    try simp only [Act.put, List.setIfInBounds_toArray, List.set_cons_zero, List.set_cons_succ]
    refine regTake (i := 4) (v := ?vn15_4) rfl (by kernel_rfl) (by kernel_rfl) (by kernel_rfl) (fun _ _ _ h => h) (Or.inl ⟨by rfl, ?hyn15_4⟩) (by assumption) ?_
    case hyn15_4 => (intro w hSw; (try dsimp only at hSw); go_simp; (try with_reducible rfl))
    try simp only [Act.put, List.setIfInBounds_toArray, List.set_cons_zero, List.set_cons_succ]
    refine regTake (i := 5) (v := ?vn15_5) rfl (by kernel_rfl) (by kernel_rfl) (by kernel_rfl) (fun _ _ _ h => h) (Or.inl ⟨by rfl, ?hyn15_5⟩) (by assumption) ?_
    case hyn15_5 => (intro w hSw; (try dsimp only at hSw); go_simp; (try with_reducible rfl))
    try simp only [Act.put, List.setIfInBounds_toArray, List.set_cons_zero, List.set_cons_succ]
    refine regTake (i := 6) (v := ?vn15_6) rfl (by kernel_rfl) (by kernel_rfl) (by kernel_rfl) (fun _ _ _ h => h) (Or.inl ⟨by rfl, ?hyn15_6⟩) (by assumption) ?_
    case hyn15_6 => (intro w hSw; (try dsimp only at hSw); go_simp; (try with_reducible rfl))
    try simp only [Act.put, List.setIfInBounds_toArray, List.set_cons_zero, List.set_cons_succ]
    refine regTake (i := 7) (v := ?vn15_7) rfl (by kernel_rfl) (by kernel_rfl) (by kernel_rfl) (fun _ _ _ h => h) (Or.inl ⟨by rfl, ?hyn15_7⟩) (by assumption) ?_
    case hyn15_7 => (intro w hSw; (try dsimp only at hSw); go_simp; (try with_reducible rfl))
    try simp only [Act.put, List.setIfInBounds_toArray, List.set_cons_zero, List.set_cons_succ]
    refine wpAnyH_ready (rs := [8]) (by kernel_rfl) (by simp) ?_
    refine regCons rfl (fun K hK => ?_)
    go_simp
    refine (HIH.out x' x _ _ _ _ _ HP.out.2.2.1 HP.out.1 (H.out.2.2.1.below (below_drew _)) (H.out.1.below (below_drew _))).mono ?_
    rw [HA.out]
    rintro e w1 ⟨rfl, hb1⟩
    have hk0 := below_trans (below_drew ((w.alloc (Obj.cells #[.int .i64 4, .slice (some ⟨bf, of, none⟩) 2 cf] 25)).alloc (Obj.cells #[.int .i64 4, .slice (some ⟨bt, ot, none⟩) 2 ct] 25))) hb1
    refine hK.out _ _ ?_ (fun hS1 => ?_)
    · (refine (fun hB => ⟨hB, cell_keep x0 hB, cell_keep x1 hB, cell_keep x2 hB, cell_keep x3 hB, cell_keep d0 hB, cell_keep d1 hB, cell_keep d2 hB, cell_keep d3 hB, cell_keep e0 hB, cell_keep e1 hB, cell_keep e2 hB, cell_keep e3 hB⟩ : Below (((w.alloc (Obj.cells #[.int .i64 4, .slice (some ⟨bf, of, none⟩) 2 cf] 25)).alloc (Obj.cells #[.int .i64 4, .slice (some ⟨bt, ot, none⟩) 2 ct] 25))).heap.size ((w.alloc (Obj.cells #[.int .i64 4, .slice (some ⟨bf, of, none⟩) 2 cf] 25)).alloc (Obj.cells #[.int .i64 4, .slice (some ⟨bt, ot, none⟩) 2 ct] 25)) _ → _) ?_; exact hk0)
    clear hK K hS0
    try simp only [Act.put, List.setIfInBounds_toArray, List.set_cons_zero, List.set_cons_succ]
    refine regTake (i := 9) (v := ?vn15_9) rfl (by kernel_rfl) (by kernel_rfl) (by kernel_rfl) (fun _ _ _ h => h) (Or.inl ⟨by rfl, ?hyn15_9⟩) (by assumption) ?_
    case hyn15_9 => (intro w hSw; (try dsimp only at hSw); go_simp; (try with_reducible rfl))
    try simp only [Act.put, List.setIfInBounds_toArray, List.set_cons_zero, List.set_cons_succ]
    refine regTake (i := 10) (v := undef) rfl (by kernel_rfl) (by kernel_rfl) (by kernel_rfl) (fun _ _ _ h => h) (Or.inr ⟨by rfl, rfl⟩) (by assumption) ?_
    try simp only [Act.put, List.setIfInBounds_toArray, List.set_cons_zero, List.set_cons_succ]
    refine regTake (i := 11) (v := undef) rfl (by kernel_rfl) (by kernel_rfl) (by kernel_rfl) (fun _ _ _ h => h) (Or.inr ⟨by rfl, rfl⟩) (by assumption) ?_
    try simp only [Act.put, List.setIfInBounds_toArray, List.set_cons_zero, List.set_cons_succ]
    refine regTake (i := 12) (v := undef) rfl (by kernel_rfl) (by kernel_rfl) (by kernel_rfl) (fun _ _ _ h => h) (Or.inr ⟨by rfl, rfl⟩) (by assumption) ?_
    try simp only [Act.put, List.setIfInBounds_toArray, List.set_cons_zero, List.set_cons_succ]
    refine regTake (i := 13) (v := undef) rfl (by kernel_rfl) (by kernel_rfl) (by kernel_rfl) (fun _ _ _ h => h) (Or.inr ⟨by rfl, rfl⟩) (by assumption) ?_
    try simp only [Act.put, List.setIfInBounds_toArray, List.set_cons_zero, List.set_cons_succ]
    refine regTake (i := 14) (v := undef) rfl (by kernel_rfl) (by kernel_rfl) (by kernel_rfl) (fun _ _ _ h => h) (Or.inr ⟨by rfl, rfl⟩) (by assumption) ?_
    try simp only [Act.put, List.setIfInBounds_toArray, List.set_cons_zero, List.set_cons_succ]
    refine regTake (i := 15) (v := undef) rfl (by kernel_rfl) (by kernel_rfl) (by kernel_rfl) (fun _ _ _ h => h) (Or.inr ⟨by rfl, rfl⟩) (by assumption) ?_
    try simp only [Act.put, List.setIfInBounds_toArray, List.set_cons_zero, List.set_cons_succ]
    refine regTake (i := 16) (v := undef) rfl (by kernel_rfl) (by kernel_rfl) (by kernel_rfl) (fun _ _ _ h => h) (Or.inr ⟨by rfl, rfl⟩) (by assumption) ?_
    try simp only [Act.put, List.setIfInBounds_toArray, List.set_cons_zero, List.set_cons_succ]
    refine regTake (i := 17) (v := undef) rfl (by kernel_rfl) (by kernel_rfl) (by kernel_rfl) (fun _ _ _ h => h) (Or.inr ⟨by rfl, rfl⟩) (by assumption) ?_
    try simp only [Act.put, List.setIfInBounds_toArray, List.set_cons_zero, List.set_cons_succ]
    refine regTake (i := 18) (v := undef) rfl (by kernel_rfl) (by kernel_rfl) (by kernel_rfl) (fun _ _ _ h => h) (Or.inr ⟨by rfl, rfl⟩) (by assumption) ?_
    try simp only [Act.put, List.setIfInBounds_toArray, List.set_cons_zero, List.set_cons_succ]
    refine regTake (i := 19) (v := .bool false) rfl (by kernel_rfl) (by kernel_rfl) (by kernel_rfl) (fun _ _ _ h => h) (Or.inl ⟨by rfl, ?hyn15_19⟩) (by assumption) ?_
    case hyn15_19 => (intro w hSw; (try dsimp only at hSw); go_simp; (try with_reducible rfl))
    try simp only [Act.put, List.setIfInBounds_toArray, List.set_cons_zero, List.set_cons_succ]
    refine regTake (i := 20) (v := ?vn15_20) rfl (by kernel_rfl) (by kernel_rfl) (by kernel_rfl) (fun _ _ _ h => h) (Or.inl ⟨by rfl, ?hyn15_20⟩) (by assumption) ?_
    case hyn15_20 => (intro w hSw; (try dsimp only at hSw); go_simp; (try with_reducible rfl))
    try simp only [Act.put, List.setIfInBounds_toArray, List.set_cons_zero, List.set_cons_succ]
    refine wpAnyH_done (by kernel_rfl) ?_ _
    go_wp2_with fail
    go_ret
    exact ⟨ret_b rfl, below_trans hb0 (hk0)⟩
  · go_enter Try.func93, Try.ntmps93
    go_wp2_with fail
    refine wp_region_held_drew (S := (fun w' => Below (((w.alloc (Obj.cells #[.int .i64 4, .slice (some ⟨bf, of, none⟩) 2 cf] 25)).alloc (Obj.cells #[.int .i64 4, .slice (some ⟨bt, ot, none⟩) 2 ct] 25))).heap.size ((w.alloc (Obj.cells #[.int .i64 4, .slice (some ⟨bf, of, none⟩) 2 cf] 25)).alloc (Obj.cells #[.int .i64 4, .slice (some ⟨bt, ot, none⟩) 2 ct] 25)) w' ∧ w'.cell? ⟨w.heap.size, 0, none⟩ = some (.int .i64 4) ∧ w'.cell? ⟨w.heap.size, 1, none⟩ = some (.slice (some ⟨bf, of, none⟩) 2 cf) ∧ w'.cell? ⟨w.heap.size + 1, 0, none⟩ = some (.int .i64 4) ∧ w'.cell? ⟨w.heap.size + 1, 1, none⟩ = some (.slice (some ⟨bt, ot, none⟩) 2 ct) ∧ w'.cell? ⟨bf, of, none⟩ = some (.int .i64 k1) ∧ w'.cell? ⟨bf, of + 1, none⟩ = some (.slice a1 n1 c1) ∧ w'.cell? ⟨bf, of + 2, none⟩ = some (.int .i64 k2) ∧ w'.cell? ⟨bf, of + 2 + 1, none⟩ = some (.slice a2 n2 c2) ∧ w'.cell? ⟨bt, ot, none⟩ = some (.int .i64 k3) ∧ w'.cell? ⟨bt, ot + 1, none⟩ = some (.slice a3 n3 c3) ∧ w'.cell? ⟨bt, ot + 2, none⟩ = some (.int .i64 k4) ∧ w'.cell? ⟨bt, ot + 2 + 1, none⟩ = some (.slice a4 n4 c4))) (by kernel_rfl) ?_ (fun hS0 => ?_)
    · (refine (fun hB => ⟨hB, cell_keep x0 hB, cell_keep x1 hB, cell_keep x2 hB, cell_keep x3 hB, cell_keep d0 hB, cell_keep d1 hB, cell_keep d2 hB, cell_keep d3 hB, cell_keep e0 hB, cell_keep e1 hB, cell_keep e2 hB, cell_keep e3 hB⟩ : Below (((w.alloc (Obj.cells #[.int .i64 4, .slice (some ⟨bf, of, none⟩) 2 cf] 25)).alloc (Obj.cells #[.int .i64 4, .slice (some ⟨bt, ot, none⟩) 2 ct] 25))).heap.size ((w.alloc (Obj.cells #[.int .i64 4, .slice (some ⟨bf, of, none⟩) 2 cf] 25)).alloc (Obj.cells #[.int .i64 4, .slice (some ⟨bt, ot, none⟩) 2 ct] 25)) _ → _) ?_; exact below_drew _)
    refine regTake (i := 0) (v := ?vn16_0) rfl (by kernel_rfl) (by kernel_rfl) (by kernel_rfl) (fun _ _ _ h => h) (Or.inl ⟨by rfl, ?hyn16_0⟩) (by assumption) ?_
    case hyn16_0 => (intro w hSw; (try dsimp only at hSw); go_simp; (try with_reducible rfl))
    try simp only [Act.put, List.setIfInBounds_toArray, List.set_cons_zero, List.set_cons_succ]
    refine regTake (i := 1) (v := ?vn16_1) rfl (by kernel_rfl) (by kernel_rfl) (by kernel_rfl) (fun _ _ _ h => h) (Or.inl ⟨by rfl, ?hyn16_1⟩) (by assumption) ?_
    case hyn16_1 => (intro w hSw; (try dsimp only at hSw); go_simp; (try with_reducible rfl))
    try simp only [Act.put, List.setIfInBounds_toArray, List.set_cons_zero, List.set_cons_succ]
    refine regTake (i := 2) (v := ?vn16_2) rfl (by kernel_rfl) (by kernel_rfl) (by kernel_rfl) (fun _ _ _ h => h) (Or.inl ⟨by rfl, ?hyn16_2⟩) (by assumption) ?_
    case hyn16_2 => (intro w hSw; (try dsimp only at hSw); go_simp; (try with_reducible rfl))
    try simp only [Act.put, List.setIfInBounds_toArray, List.set_cons_zero, List.set_cons_succ]
    refine regTake (i := 3) (v := ?vn16_3) rfl (by kernel_rfl) (by kernel_rfl) (by kernel_rfl) (fun _ _ _ h => h) (Or.inl ⟨by rfl, ?hyn16_3⟩) (by assumption) ?_
    case hyn16_3 => (intro w hSw; (try dsimp only at hSw); go_simp; (try with_reducible rfl))
    try simp only [Act.put, List.setIfInBounds_toArray, List.set_cons_zero, List.set_cons_succ]
    refine regTake (i := 4) (v := ?vn16_4) rfl (by kernel_rfl) (by kernel_rfl) (by kernel_rfl) (fun _ _ _ h => h) (Or.inl ⟨by rfl, ?hyn16_4⟩) (by assumption) ?_
    case hyn16_4 => (intro w hSw; (try dsimp only at hSw); go_simp; (try with_reducible rfl))
    try simp only [Act.put, List.setIfInBounds_toArray, List.set_cons_zero, List.set_cons_succ]
    refine regTake (i := 5) (v := ?vn16_5) rfl (by kernel_rfl) (by kernel_rfl) (by kernel_rfl) (fun _ _ _ h => h) (Or.inl ⟨by rfl, ?hyn16_5⟩) (by assumption) ?_
    case hyn16_5 => (intro w hSw; (try dsimp only at hSw); go_simp; (try with_reducible rfl))
    try simp only [Act.put, List.setIfInBounds_toArray, List.set_cons_zero, List.set_cons_succ]
    refine regTake (i := 6) (v := ?vn16_6) rfl (by kernel_rfl) (by kernel_rfl) (by kernel_rfl) (fun _ _ _ h => h) (Or.inl ⟨by rfl, ?hyn16_6⟩) (by assumption) ?_
    case hyn16_6 => (intro w hSw; (try dsimp only at hSw); go_simp; (try with_reducible rfl))
    try simp only [Act.put, List.setIfInBounds_toArray, List.set_cons_zero, List.set_cons_succ]
    refine regTake (i := 7) (v := ?vn16_7) rfl (by kernel_rfl) (by kernel_rfl) (by kernel_rfl) (fun _ _ _ h => h) (Or.inl ⟨by rfl, ?hyn16_7⟩) (by assumption) ?_
    case hyn16_7 => (intro w hSw; (try dsimp only at hSw); go_simp; (try with_reducible rfl))
    try simp only [Act.put, List.setIfInBounds_toArray, List.set_cons_zero, List.set_cons_succ]
    refine wpAnyH_ready (rs := [8]) (by kernel_rfl) (by simp) ?_
    refine regCons rfl (fun K hK => ?_)
    go_simp
    refine (HIH.out x' x _ _ _ _ _ HP.out.2.2.1 HP.out.1 (H.out.2.2.1.below (below_drew _)) (H.out.1.below (below_drew _))).mono ?_
    rw [HA.out]
    rintro e w1 ⟨rfl, hb1⟩
    have hk0 := below_trans (below_drew ((w.alloc (Obj.cells #[.int .i64 4, .slice (some ⟨bf, of, none⟩) 2 cf] 25)).alloc (Obj.cells #[.int .i64 4, .slice (some ⟨bt, ot, none⟩) 2 ct] 25))) hb1
    refine hK.out _ _ ?_ (fun hS1 => ?_)
    · (refine (fun hB => ⟨hB, cell_keep x0 hB, cell_keep x1 hB, cell_keep x2 hB, cell_keep x3 hB, cell_keep d0 hB, cell_keep d1 hB, cell_keep d2 hB, cell_keep d3 hB, cell_keep e0 hB, cell_keep e1 hB, cell_keep e2 hB, cell_keep e3 hB⟩ : Below (((w.alloc (Obj.cells #[.int .i64 4, .slice (some ⟨bf, of, none⟩) 2 cf] 25)).alloc (Obj.cells #[.int .i64 4, .slice (some ⟨bt, ot, none⟩) 2 ct] 25))).heap.size ((w.alloc (Obj.cells #[.int .i64 4, .slice (some ⟨bf, of, none⟩) 2 cf] 25)).alloc (Obj.cells #[.int .i64 4, .slice (some ⟨bt, ot, none⟩) 2 ct] 25)) _ → _) ?_; exact hk0)
    clear hK K hS0
    try simp only [Act.put, List.setIfInBounds_toArray, List.set_cons_zero, List.set_cons_succ]
    refine regTake (i := 9) (v := ?vn16_9) rfl (by kernel_rfl) (by kernel_rfl) (by kernel_rfl) (fun _ _ _ h => h) (Or.inl ⟨by rfl, ?hyn16_9⟩) (by assumption) ?_
    case hyn16_9 => (intro w hSw; (try dsimp only at hSw); go_simp; (try with_reducible rfl))
    try simp only [Act.put, List.setIfInBounds_toArray, List.set_cons_zero, List.set_cons_succ]
    refine regTake (i := 10) (v := ?vn16_10) rfl (by kernel_rfl) (by kernel_rfl) (by kernel_rfl) (fun _ _ _ h => h) (Or.inl ⟨by rfl, ?hyn16_10⟩) (by assumption) ?_
    case hyn16_10 => (intro w hSw; (try dsimp only at hSw); go_simp; (try with_reducible rfl))
    try simp only [Act.put, List.setIfInBounds_toArray, List.set_cons_zero, List.set_cons_succ]
    refine regTake (i := 11) (v := ?vn16_11) rfl (by kernel_rfl) (by kernel_rfl) (by kernel_rfl) (fun _ _ _ h => h) (Or.inl ⟨by rfl, ?hyn16_11⟩) (by assumption) ?_
    case hyn16_11 => (intro w hSw; (try dsimp only at hSw); go_simp; (try with_reducible rfl))
    try simp only [Act.put, List.setIfInBounds_toArray, List.set_cons_zero, List.set_cons_succ]
    refine regTake (i := 12) (v := ?vn16_12) rfl (by kernel_rfl) (by kernel_rfl) (by kernel_rfl) (fun _ _ _ h => h) (Or.inl ⟨by rfl, ?hyn16_12⟩) (by assumption) ?_
    case hyn16_12 => (intro w hSw; (try dsimp only at hSw); go_simp; (try with_reducible rfl))
    try simp only [Act.put, List.setIfInBounds_toArray, List.set_cons_zero, List.set_cons_succ]
    refine regTake (i := 13) (v := ?vn16_13) rfl (by kernel_rfl) (by kernel_rfl) (by kernel_rfl) (fun _ _ _ h => h) (Or.inl ⟨by rfl, ?hyn16_13⟩) (by assumption) ?_
    case hyn16_13 => (intro w hSw; (try dsimp only at hSw); go_simp; (try with_reducible rfl))
    try simp only [Act.put, List.setIfInBounds_toArray, List.set_cons_zero, List.set_cons_succ]
    refine regTake (i := 14) (v := ?vn16_14) rfl (by kernel_rfl) (by kernel_rfl) (by kernel_rfl) (fun _ _ _ h => h) (Or.inl ⟨by rfl, ?hyn16_14⟩) (by assumption) ?_
    case hyn16_14 => (intro w hSw; (try dsimp only at hSw); go_simp; (try with_reducible rfl))
    try simp only [Act.put, List.setIfInBounds_toArray, List.set_cons_zero, List.set_cons_succ]
    refine regTake (i := 15) (v := ?vn16_15) rfl (by kernel_rfl) (by kernel_rfl) (by kernel_rfl) (fun _ _ _ h => h) (Or.inl ⟨by rfl, ?hyn16_15⟩) (by assumption) ?_
    case hyn16_15 => (intro w hSw; (try dsimp only at hSw); go_simp; (try with_reducible rfl))
    try simp only [Act.put, List.setIfInBounds_toArray, List.set_cons_zero, List.set_cons_succ]
    refine regTake (i := 16) (v := ?vn16_16) rfl (by kernel_rfl) (by kernel_rfl) (by kernel_rfl) (fun _ _ _ h => h) (Or.inl ⟨by rfl, ?hyn16_16⟩) (by assumption) ?_
    case hyn16_16 => (intro w hSw; (try dsimp only at hSw); go_simp; (try with_reducible rfl))
    try simp only [Act.put, List.setIfInBounds_toArray, List.set_cons_zero, List.set_cons_succ]
    refine regTake (i := 17) (v := ?vn16_17) rfl (by kernel_rfl) (by kernel_rfl) (by kernel_rfl) (fun _ _ _ h => h) (Or.inl ⟨by rfl, ?hyn16_17⟩) (by assumption) ?_
    case hyn16_17 => (intro w hSw; (try dsimp only at hSw); go_simp; (try with_reducible rfl))
    try simp only [Act.put, List.setIfInBounds_toArray, List.set_cons_zero, List.set_cons_succ]
    refine wpAnyH_ready (rs := [18]) (by kernel_rfl) (by simp) ?_
    refine regCons rfl (fun K hK => ?_)
    go_simp
    refine (HIH.out y y' _ _ _ _ _ HP.out.2.1 HP.out.2.2.2 (H.out.2.1.below hk0) (H.out.2.2.2.below hk0)).mono ?_
    rw [HB.out]
    rintro e w2 ⟨rfl, hb2⟩
    have hk1 := below_trans hk0 hb2
    refine hK.out _ _ ?_ (fun hS2 => ?_)
    · (refine (fun hB => ⟨hB, cell_keep x0 hB, cell_keep x1 hB, cell_keep x2 hB, cell_keep x3 hB, cell_keep d0 hB, cell_keep d1 hB, cell_keep d2 hB, cell_keep d3 hB, cell_keep e0 hB, cell_keep e1 hB, cell_keep e2 hB, cell_keep e3 hB⟩ : Below (((w.alloc (Obj.cells #[.int .i64 4, .slice (some ⟨bf, of, none⟩) 2 cf] 25)).alloc (Obj.cells #[.int .i64 4, .slice (some ⟨bt, ot, none⟩) 2 ct] 25))).heap.size ((w.alloc (Obj.cells #[.int .i64 4, .slice (some ⟨bf, of, none⟩) 2 cf] 25)).alloc (Obj.cells #[.int .i64 4, .slice (some ⟨bt, ot, none⟩) 2 ct] 25)) _ → _) ?_; exact hk1)
    clear hK K hS1
    try simp only [Act.put, List.setIfInBounds_toArray, List.set_cons_zero, List.set_cons_succ]
    refine regTake (i := 19) (v := .bool B) rfl (by kernel_rfl) (by kernel_rfl) (by kernel_rfl) (fun _ _ _ h => h) (Or.inl ⟨by rfl, ?hyn16_19⟩) (by assumption) ?_
    case hyn16_19 => (intro w hSw; (try dsimp only at hSw); go_simp; (try with_reducible rfl))
    try simp only [Act.put, List.setIfInBounds_toArray, List.set_cons_zero, List.set_cons_succ]
    refine regTake (i := 20) (v := ?vn16_20) rfl (by kernel_rfl) (by kernel_rfl) (by kernel_rfl) (fun _ _ _ h => h) (Or.inl ⟨by rfl, ?hyn16_20⟩) (by assumption) ?_
    case hyn16_20 => (intro w hSw; (try dsimp only at hSw); go_simp; (try with_reducible rfl))
    try simp only [Act.put, List.setIfInBounds_toArray, List.set_cons_zero, List.set_cons_succ]
    refine wpAnyH_done (by kernel_rfl) ?_ _
    go_wp2_with fail
    go_ret
    exact ⟨ret_b rfl, below_trans hb0 (hk1)⟩

set_option maxRecDepth 100000 in
set_option maxHeartbeats 4000000 in
theorem sub_two5 (d : Nat) (ih : SuC d) (x y x' y' : Ty) (v1 v2 : Value) (f1 f2 : List Nat) (w : World) (hx : shp d x = true) (hy : shp d y = true) (hx' : shp d x' = true) (hy' : shp d y' = true) (h1 : (Ty.mk 5 [x, y]).At w v1 f1) (h2 : (Ty.mk 5 [x', y']).At w v2 f2) :
    Calls Try.prog 93 #[v1, v2] w (fun e w' => e = .returned (.bool (sub d 0 x x' && sub d 0 y y')) ∧ Below w.heap.size w w') := by
  obtain ⟨s1, rfl, hs1⟩ := Ty.at_mk.1 h1
  obtain ⟨s2, rfl, hs2⟩ := Ty.at_mk.1 h2
  obtain ⟨bf, of, cf, k1, n1, a1, c1, k2, n2, a2, c2, g1, g2, rfl, hbf, d0, d1, d2, d3, hX1, hX2, _, hcf⟩ := hs1.two
  obtain ⟨bt, ot, ct, k3, n3, a3, c3, k4, n4, a4, c4, g3, g4, rfl, hbt, e0, e1, e2, e3, hY1, hY2, _, hct⟩ := hs2.two
  have hb0 : Below w.heap.size w ((w.alloc (Obj.cells #[.int .i64 5, .slice (some ⟨bf, of, none⟩) 2 cf] 25)).alloc (Obj.cells #[.int .i64 5, .slice (some ⟨bt, ot, none⟩) 2 ct] 25)) := ((Below.refl _ _).alloc (Nat.le_refl _) _).alloc (by simp) _
  obtain ⟨x0, x1, x2, x3⟩ := box_cells2 (Below.refl (((w.alloc (Obj.cells #[.int .i64 5, .slice (some ⟨bf, of, none⟩) 2 cf] 25)).alloc (Obj.cells #[.int .i64 5, .slice (some ⟨bt, ot, none⟩) 2 ct] 25))).heap.size ((w.alloc (Obj.cells #[.int .i64 5, .slice (some ⟨bf, of, none⟩) 2 cf] 25)).alloc (Obj.cells #[.int .i64 5, .slice (some ⟨bt, ot, none⟩) 2 ct] 25)))
  replace d0 := cell_keep d0 hb0
  replace d1 := cell_keep d1 hb0
  replace d2 := cell_keep d2 hb0
  replace d3 := cell_keep d3 hb0
  replace e0 := cell_keep e0 hb0
  replace e1 := cell_keep e1 hb0
  replace e2 := cell_keep e2 hb0
  replace e3 := cell_keep e3 hb0
  have H := hid (And.intro (hX1.below hb0) (And.intro (hX2.below hb0) (And.intro (hY1.below hb0) (hY2.below hb0))))
  have HP := hid (And.intro hx (And.intro hy (And.intro hx' hy')))
  have HIH := hid ih
  clear ih h1 h2 hs1 hs2 hX1 hX2 hY1 hY2 hx hy hx' hy'
  generalize hA : sub d 0 x x' = A at *
  generalize hB : sub d 0 y y' = B at *
  have HA := hid hA
  have HB := hid hB
  clear hA hB
  cases A
  · go_enter Try.func93, Try.ntmps93
    go_wp2_with fail
    refine wp_region_held_drew (S := (fun w' => Below (((w.alloc (Obj.cells #[.int .i64 5, .slice (some ⟨bf, of, none⟩) 2 cf] 25)).alloc (Obj.cells #[.int .i64 5, .slice (some ⟨bt, ot, none⟩) 2 ct] 25))).heap.size ((w.alloc (Obj.cells #[.int .i64 5, .slice (some ⟨bf, of, none⟩) 2 cf] 25)).alloc (Obj.cells #[.int .i64 5, .slice (some ⟨bt, ot, none⟩) 2 ct] 25)) w' ∧ w'.cell? ⟨w.heap.size, 0, none⟩ = some (.int .i64 5) ∧ w'.cell? ⟨w.heap.size, 1, none⟩ = some (.slice (some ⟨bf, of, none⟩) 2 cf) ∧ w'.cell? ⟨w.heap.size + 1, 0, none⟩ = some (.int .i64 5) ∧ w'.cell? ⟨w.heap.size + 1, 1, none⟩ = some (.slice (some ⟨bt, ot, none⟩) 2 ct) ∧ w'.cell? ⟨bf, of, none⟩ = some (.int .i64 k1) ∧ w'.cell? ⟨bf, of + 1, none⟩ = some (.slice a1 n1 c1) ∧ w'.cell? ⟨bf, of + 2, none⟩ = some (.int .i64 k2) ∧ w'.cell? ⟨bf, of + 2 + 1, none⟩ = some (.slice a2 n2 c2) ∧ w'.cell? ⟨bt, ot, none⟩ = some (.int .i64 k3) ∧ w'.cell? ⟨bt, ot + 1, none⟩ = some (.slice a3 n3 c3) ∧ w'.cell? ⟨bt, ot + 2, none⟩ = some (.int .i64 k4) ∧ w'.cell? ⟨bt, ot + 2 + 1, none⟩ = some (.slice a4 n4 c4))) (by kernel_rfl) ?_ (fun hS0 => ?_)
    · (refine (fun hB => ⟨hB, cell_keep x0 hB, cell_keep x1 hB, cell_keep x2 hB, cell_keep x3 hB, cell_keep d0 hB, cell_keep d1 hB, cell_keep d2 hB, cell_keep d3 hB, cell_keep e0 hB, cell_keep e1 hB, cell_keep e2 hB, cell_keep e3 hB⟩ : Below (((w.alloc (Obj.cells #[.int .i64 5, .slice (some ⟨bf, of, none⟩) 2 cf] 25)).alloc (Obj.cells #[.int .i64 5, .slice (some ⟨bt, ot, none⟩) 2 ct] 25))).heap.size ((w.alloc (Obj.cells #[.int .i64 5, .slice (some ⟨bf, of, none⟩) 2 cf] 25)).alloc (Obj.cells #[.int .i64 5, .slice (some ⟨bt, ot, none⟩) 2 ct] 25)) _ → _) ?_; exact below_drew _)
    refine regTake (i := 0) (v := ?vn17_0) rfl (by kernel_rfl) (by kernel_rfl) (by kernel_rfl) (fun _ _ _ h => h) (Or.inl ⟨by rfl, ?hyn17_0⟩) (by assumption) ?_
    case hyn17_0 => (intro w hSw; (try dsimp only at hSw); go_simp; (try with_reducible rfl))
    try simp only [Act.put, List.setIfInBounds_toArray, List.set_cons_zero, List.set_cons_succ]
    refine regTake (i := 1) (v := ?vn17_1) rfl (by kernel_rfl) (by kernel_rfl) (by kernel_rfl) (fun _ _ _ h => h) (Or.inl ⟨by rfl, ?hyn17_1⟩) (by assumption) ?_
    case hyn17_1 => (intro w hSw; (try dsimp only at hSw); go_simp; (try with_reducible rfl))
    try simp only [Act.put, List.setIfInBounds_toArray, List.set_cons_zero, List.set_cons_succ]
    refine regTake (i := 2) (v := ?vn17_2) rfl (by kernel_rfl) (by kernel_rfl) (by kernel_rfl) (fun _ _ _ h => h) (Or.inl ⟨by rfl, ?hyn17_2⟩) (by assumption) ?_
    case hyn17_2 => (intro w hSw; (try dsimp only at hSw); go_simp; (try with_reducible rfl))
    try simp only [Act.put, List.setIfInBounds_toArray, List.set_cons_zero, List.set_cons_succ]
    refine regTake (i := 3) (v := ?vn17_3) rfl (by kernel_rfl) (by kernel_rfl) (by kernel_rfl) (fun _ _ _ h => h) (Or.inl ⟨by rfl, ?hyn17_3⟩) (by assumption) ?_
    case hyn17_3 => (intro w hSw; (try dsimp only at hSw); go_simp; (try with_reducible rfl))
    try simp only [Act.put, List.setIfInBounds_toArray, List.set_cons_zero, List.set_cons_succ]
    refine regTake (i := 4) (v := ?vn17_4) rfl (by kernel_rfl) (by kernel_rfl) (by kernel_rfl) (fun _ _ _ h => h) (Or.inl ⟨by rfl, ?hyn17_4⟩) (by assumption) ?_
    case hyn17_4 => (intro w hSw; (try dsimp only at hSw); go_simp; (try with_reducible rfl))
    try simp only [Act.put, List.setIfInBounds_toArray, List.set_cons_zero, List.set_cons_succ]
    refine regTake (i := 5) (v := ?vn17_5) rfl (by kernel_rfl) (by kernel_rfl) (by kernel_rfl) (fun _ _ _ h => h) (Or.inl ⟨by rfl, ?hyn17_5⟩) (by assumption) ?_
    case hyn17_5 => (intro w hSw; (try dsimp only at hSw); go_simp; (try with_reducible rfl))
    try simp only [Act.put, List.setIfInBounds_toArray, List.set_cons_zero, List.set_cons_succ]
    refine regTake (i := 6) (v := ?vn17_6) rfl (by kernel_rfl) (by kernel_rfl) (by kernel_rfl) (fun _ _ _ h => h) (Or.inl ⟨by rfl, ?hyn17_6⟩) (by assumption) ?_
    case hyn17_6 => (intro w hSw; (try dsimp only at hSw); go_simp; (try with_reducible rfl))
    try simp only [Act.put, List.setIfInBounds_toArray, List.set_cons_zero, List.set_cons_succ]
    refine regTake (i := 7) (v := ?vn17_7) rfl (by kernel_rfl) (by kernel_rfl) (by kernel_rfl) (fun _ _ _ h => h) (Or.inl ⟨by rfl, ?hyn17_7⟩) (by assumption) ?_
    case hyn17_7 => (intro w hSw; (try dsimp only at hSw); go_simp; (try with_reducible rfl))
    try simp only [Act.put, List.setIfInBounds_toArray, List.set_cons_zero, List.set_cons_succ]
    refine regTake (i := 8) (v := ?vn17_8) rfl (by kernel_rfl) (by kernel_rfl) (by kernel_rfl) (fun _ _ _ h => h) (Or.inl ⟨by rfl, ?hyn17_8⟩) (by assumption) ?_
    case hyn17_8 => (intro w hSw; (try dsimp only at hSw); go_simp; (try with_reducible rfl))
    try simp only [Act.put, List.setIfInBounds_toArray, List.set_cons_zero, List.set_cons_succ]
    refine regTake (i := 9) (v := ?vn17_9) rfl (by kernel_rfl) (by kernel_rfl) (by kernel_rfl) (fun _ _ _ h => h) (Or.inl ⟨by rfl, ?hyn17_9⟩) (by assumption) ?_
    case hyn17_9 => (intro w hSw; (try dsimp only at hSw); go_simp; (try with_reducible rfl))
    try simp only [Act.put, List.setIfInBounds_toArray, List.set_cons_zero, List.set_cons_succ]
    refine regTake (i := 10) (v := ?vn17_10) rfl (by kernel_rfl) (by kernel_rfl) (by kernel_rfl) (fun _ _ _ h => h) (Or.inl ⟨by rfl, ?hyn17_10⟩) (by assumption) ?_
    case hyn17_10 => (intro w hSw; (try dsimp only at hSw); go_simp; (try with_reducible rfl))
    try simp only [Act.put, List.setIfInBounds_toArray, List.set_cons_zero, List.set_cons_succ]
    refine regTake (i := 11) (v := ?vn17_11) rfl (by kernel_rfl) (by kernel_rfl) (by kernel_rfl) (fun _ _ _ h => h) (Or.inl ⟨by rfl, ?hyn17_11⟩) (by assumption) ?_
    case hyn17_11 => (intro w hSw; (try dsimp only at hSw); go_simp; (try with_reducible rfl))
    try simp only [Act.put, List.setIfInBounds_toArray, List.set_cons_zero, List.set_cons_succ]
    refine wpAnyH_ready (rs := [12]) (by kernel_rfl) (by simp) ?_
    refine regCons rfl (fun K hK => ?_)
    go_simp
    refine (HIH.out x x' _ _ _ _ _ HP.out.1 HP.out.2.2.1 (H.out.1.below (below_drew _)) (H.out.2.2.1.below (below_drew _))).mono ?_
    rw [HA.out]
    rintro e w1 ⟨rfl, hb1⟩
    have hk0 := below_trans (below_drew ((w.alloc (Obj.cells #[.int .i64 5, .slice (some ⟨bf, of, none⟩) 2 cf] 25)).alloc (Obj.cells #[.int .i64 5, .slice (some ⟨bt, ot, none⟩) 2 ct] 25))) hb1
    refine hK.out _ _ ?_ (fun hS1 => ?_)
    · (refine (fun hB => ⟨hB, cell_keep x0 hB, cell_keep x1 hB, cell_keep x2 hB, cell_keep x3 hB, cell_keep d0 hB, cell_keep d1 hB, cell_keep d2 hB, cell_keep d3 hB, cell_keep e0 hB, cell_keep e1 hB, cell_keep e2 hB, cell_keep e3 hB⟩ : Below (((w.alloc (Obj.cells #[.int .i64 5, .slice (some ⟨bf, of, none⟩) 2 cf] 25)).alloc (Obj.cells #[.int .i64 5, .slice (some ⟨bt, ot, none⟩) 2 ct] 25))).heap.size ((w.alloc (Obj.cells #[.int .i64 5, .slice (some ⟨bf, of, none⟩) 2 cf] 25)).alloc (Obj.cells #[.int .i64 5, .slice (some ⟨bt, ot, none⟩) 2 ct] 25)) _ → _) ?_; exact hk0)
    clear hK K hS0
    try simp only [Act.put, List.setIfInBounds_toArray, List.set_cons_zero, List.set_cons_succ]
    refine regTake (i := 13) (v := ?vn17_13) rfl (by kernel_rfl) (by kernel_rfl) (by kernel_rfl) (fun _ _ _ h => h) (Or.inl ⟨by rfl, ?hyn17_13⟩) (by assumption) ?_
    case hyn17_13 => (intro w hSw; (try dsimp only at hSw); go_simp; (try with_reducible rfl))
    try simp only [Act.put, List.setIfInBounds_toArray, List.set_cons_zero, List.set_cons_succ]
    refine regTake (i := 14) (v := undef) rfl (by kernel_rfl) (by kernel_rfl) (by kernel_rfl) (fun _ _ _ h => h) (Or.inr ⟨by rfl, rfl⟩) (by assumption) ?_
    try simp only [Act.put, List.setIfInBounds_toArray, List.set_cons_zero, List.set_cons_succ]
    refine regTake (i := 15) (v := undef) rfl (by kernel_rfl) (by kernel_rfl) (by kernel_rfl) (fun _ _ _ h => h) (Or.inr ⟨by rfl, rfl⟩) (by assumption) ?_
    try simp only [Act.put, List.setIfInBounds_toArray, List.set_cons_zero, List.set_cons_succ]
    refine regTake (i := 16) (v := undef) rfl (by kernel_rfl) (by kernel_rfl) (by kernel_rfl) (fun _ _ _ h => h) (Or.inr ⟨by rfl, rfl⟩) (by assumption) ?_
    try simp only [Act.put, List.setIfInBounds_toArray, List.set_cons_zero, List.set_cons_succ]
    refine regTake (i := 17) (v := undef) rfl (by kernel_rfl) (by kernel_rfl) (by kernel_rfl) (fun _ _ _ h => h) (Or.inr ⟨by rfl, rfl⟩) (by assumption) ?_
    try simp only [Act.put, List.setIfInBounds_toArray, List.set_cons_zero, List.set_cons_succ]
    refine regTake (i := 18) (v := undef) rfl (by kernel_rfl) (by kernel_rfl) (by kernel_rfl) (fun _ _ _ h => h) (Or.inr ⟨by rfl, rfl⟩) (by assumption) ?_
    try simp only [Act.put, List.setIfInBounds_toArray, List.set_cons_zero, List.set_cons_succ]
    refine regTake (i := 19) (v := undef) rfl (by kernel_rfl) (by kernel_rfl) (by kernel_rfl) (fun _ _ _ h => h) (Or.inr ⟨by rfl, rfl⟩) (by assumption) ?_
    try simp only [Act.put, List.setIfInBounds_toArray, List.set_cons_zero, List.set_cons_succ]
    refine regTake (i := 20) (v := undef) rfl (by kernel_rfl) (by kernel_rfl) (by kernel_rfl) (fun _ _ _ h => h) (Or.inr ⟨by rfl, rfl⟩) (by assumption) ?_
    try simp only [Act.put, List.setIfInBounds_toArray, List.set_cons_zero, List.set_cons_succ]
    refine regTake (i := 21) (v := undef) rfl (by kernel_rfl) (by kernel_rfl) (by kernel_rfl) (fun _ _ _ h => h) (Or.inr ⟨by rfl, rfl⟩) (by assumption) ?_
    try simp only [Act.put, List.setIfInBounds_toArray, List.set_cons_zero, List.set_cons_succ]
    refine regTake (i := 22) (v := undef) rfl (by kernel_rfl) (by kernel_rfl) (by kernel_rfl) (fun _ _ _ h => h) (Or.inr ⟨by rfl, rfl⟩) (by assumption) ?_
    try simp only [Act.put, List.setIfInBounds_toArray, List.set_cons_zero, List.set_cons_succ]
    refine regTake (i := 23) (v := .bool false) rfl (by kernel_rfl) (by kernel_rfl) (by kernel_rfl) (fun _ _ _ h => h) (Or.inl ⟨by rfl, ?hyn17_23⟩) (by assumption) ?_
    case hyn17_23 => (intro w hSw; (try dsimp only at hSw); go_simp; (try with_reducible rfl))
    try simp only [Act.put, List.setIfInBounds_toArray, List.set_cons_zero, List.set_cons_succ]
    refine regTake (i := 24) (v := .bool false) rfl (by kernel_rfl) (by kernel_rfl) (by kernel_rfl) (fun _ _ _ h => h) (Or.inl ⟨by rfl, ?hyn17_24⟩) (by assumption) ?_
    case hyn17_24 => (intro w hSw; (try dsimp only at hSw); go_simp; (try with_reducible rfl))
    try simp only [Act.put, List.setIfInBounds_toArray, List.set_cons_zero, List.set_cons_succ]
    refine regTake (i := 25) (v := ?vn17_25) rfl (by kernel_rfl) (by kernel_rfl) (by kernel_rfl) (fun _ _ _ h => h) (Or.inl ⟨by rfl, ?hyn17_25⟩) (by assumption) ?_
    case hyn17_25 => (intro w hSw; (try dsimp only at hSw); go_simp; (try with_reducible rfl))
    try simp only [Act.put, List.setIfInBounds_toArray, List.set_cons_zero, List.set_cons_succ]
    refine wpAnyH_done (by kernel_rfl) ?_ _
    go_wp2_with fail
    go_ret
    exact ⟨ret_b rfl, below_trans hb0 (hk0)⟩
  · go_enter Try.func93, Try.ntmps93
    go_wp2_with fail
    refine wp_region_held_drew (S := (fun w' => Below (((w.alloc (Obj.cells #[.int .i64 5, .slice (some ⟨bf, of, none⟩) 2 cf] 25)).alloc (Obj.cells #[.int .i64 5, .slice (some ⟨bt, ot, none⟩) 2 ct] 25))).heap.size ((w.alloc (Obj.cells #[.int .i64 5, .slice (some ⟨bf, of, none⟩) 2 cf] 25)).alloc (Obj.cells #[.int .i64 5, .slice (some ⟨bt, ot, none⟩) 2 ct] 25)) w' ∧ w'.cell? ⟨w.heap.size, 0, none⟩ = some (.int .i64 5) ∧ w'.cell? ⟨w.heap.size, 1, none⟩ = some (.slice (some ⟨bf, of, none⟩) 2 cf) ∧ w'.cell? ⟨w.heap.size + 1, 0, none⟩ = some (.int .i64 5) ∧ w'.cell? ⟨w.heap.size + 1, 1, none⟩ = some (.slice (some ⟨bt, ot, none⟩) 2 ct) ∧ w'.cell? ⟨bf, of, none⟩ = some (.int .i64 k1) ∧ w'.cell? ⟨bf, of + 1, none⟩ = some (.slice a1 n1 c1) ∧ w'.cell? ⟨bf, of + 2, none⟩ = some (.int .i64 k2) ∧ w'.cell? ⟨bf, of + 2 + 1, none⟩ = some (.slice a2 n2 c2) ∧ w'.cell? ⟨bt, ot, none⟩ = some (.int .i64 k3) ∧ w'.cell? ⟨bt, ot + 1, none⟩ = some (.slice a3 n3 c3) ∧ w'.cell? ⟨bt, ot + 2, none⟩ = some (.int .i64 k4) ∧ w'.cell? ⟨bt, ot + 2 + 1, none⟩ = some (.slice a4 n4 c4))) (by kernel_rfl) ?_ (fun hS0 => ?_)
    · (refine (fun hB => ⟨hB, cell_keep x0 hB, cell_keep x1 hB, cell_keep x2 hB, cell_keep x3 hB, cell_keep d0 hB, cell_keep d1 hB, cell_keep d2 hB, cell_keep d3 hB, cell_keep e0 hB, cell_keep e1 hB, cell_keep e2 hB, cell_keep e3 hB⟩ : Below (((w.alloc (Obj.cells #[.int .i64 5, .slice (some ⟨bf, of, none⟩) 2 cf] 25)).alloc (Obj.cells #[.int .i64 5, .slice (some ⟨bt, ot, none⟩) 2 ct] 25))).heap.size ((w.alloc (Obj.cells #[.int .i64 5, .slice (some ⟨bf, of, none⟩) 2 cf] 25)).alloc (Obj.cells #[.int .i64 5, .slice (some ⟨bt, ot, none⟩) 2 ct] 25)) _ → _) ?_; exact below_drew _)
    refine regTake (i := 0) (v := ?vn18_0) rfl (by kernel_rfl) (by kernel_rfl) (by kernel_rfl) (fun _ _ _ h => h) (Or.inl ⟨by rfl, ?hyn18_0⟩) (by assumption) ?_
    case hyn18_0 => (intro w hSw; (try dsimp only at hSw); go_simp; (try with_reducible rfl))
    try simp only [Act.put, List.setIfInBounds_toArray, List.set_cons_zero, List.set_cons_succ]
    refine regTake (i := 1) (v := ?vn18_1) rfl (by kernel_rfl) (by kernel_rfl) (by kernel_rfl) (fun _ _ _ h => h) (Or.inl ⟨by rfl, ?hyn18_1⟩) (by assumption) ?_
    case hyn18_1 => (intro w hSw; (try dsimp only at hSw); go_simp; (try with_reducible rfl))
    try simp only [Act.put, List.setIfInBounds_toArray, List.set_cons_zero, List.set_cons_succ]
    refine regTake (i := 2) (v := ?vn18_2) rfl (by kernel_rfl) (by kernel_rfl) (by kernel_rfl) (fun _ _ _ h => h) (Or.inl ⟨by rfl, ?hyn18_2⟩) (by assumption) ?_
    case hyn18_2 => (intro w hSw; (try dsimp only at hSw); go_simp; (try with_reducible rfl))
    try simp only [Act.put, List.setIfInBounds_toArray, List.set_cons_zero, List.set_cons_succ]
    refine regTake (i := 3) (v := ?vn18_3) rfl (by kernel_rfl) (by kernel_rfl) (by kernel_rfl) (fun _ _ _ h => h) (Or.inl ⟨by rfl, ?hyn18_3⟩) (by assumption) ?_
    case hyn18_3 => (intro w hSw; (try dsimp only at hSw); go_simp; (try with_reducible rfl))
    try simp only [Act.put, List.setIfInBounds_toArray, List.set_cons_zero, List.set_cons_succ]
    refine regTake (i := 4) (v := ?vn18_4) rfl (by kernel_rfl) (by kernel_rfl) (by kernel_rfl) (fun _ _ _ h => h) (Or.inl ⟨by rfl, ?hyn18_4⟩) (by assumption) ?_
    case hyn18_4 => (intro w hSw; (try dsimp only at hSw); go_simp; (try with_reducible rfl))
    try simp only [Act.put, List.setIfInBounds_toArray, List.set_cons_zero, List.set_cons_succ]
    refine regTake (i := 5) (v := ?vn18_5) rfl (by kernel_rfl) (by kernel_rfl) (by kernel_rfl) (fun _ _ _ h => h) (Or.inl ⟨by rfl, ?hyn18_5⟩) (by assumption) ?_
    case hyn18_5 => (intro w hSw; (try dsimp only at hSw); go_simp; (try with_reducible rfl))
    try simp only [Act.put, List.setIfInBounds_toArray, List.set_cons_zero, List.set_cons_succ]
    refine regTake (i := 6) (v := ?vn18_6) rfl (by kernel_rfl) (by kernel_rfl) (by kernel_rfl) (fun _ _ _ h => h) (Or.inl ⟨by rfl, ?hyn18_6⟩) (by assumption) ?_
    case hyn18_6 => (intro w hSw; (try dsimp only at hSw); go_simp; (try with_reducible rfl))
    try simp only [Act.put, List.setIfInBounds_toArray, List.set_cons_zero, List.set_cons_succ]
    refine regTake (i := 7) (v := ?vn18_7) rfl (by kernel_rfl) (by kernel_rfl) (by kernel_rfl) (fun _ _ _ h => h) (Or.inl ⟨by rfl, ?hyn18_7⟩) (by assumption) ?_
    case hyn18_7 => (intro w hSw; (try dsimp only at hSw); go_simp; (try with_reducible rfl))
    try simp only [Act.put, List.setIfInBounds_toArray, List.set_cons_zero, List.set_cons_succ]
    refine regTake (i := 8) (v := ?vn18_8) rfl (by kernel_rfl) (by kernel_rfl) (by kernel_rfl) (fun _ _ _ h => h) (Or.inl ⟨by rfl, ?hyn18_8⟩) (by assumption) ?_
    case hyn18_8 => (intro w hSw; (try dsimp only at hSw); go_simp; (try with_reducible rfl))
    try simp only [Act.put, List.setIfInBounds_toArray, List.set_cons_zero, List.set_cons_succ]
    refine regTake (i := 9) (v := ?vn18_9) rfl (by kernel_rfl) (by kernel_rfl) (by kernel_rfl) (fun _ _ _ h => h) (Or.inl ⟨by rfl, ?hyn18_9⟩) (by assumption) ?_
    case hyn18_9 => (intro w hSw; (try dsimp only at hSw); go_simp; (try with_reducible rfl))
    try simp only [Act.put, List.setIfInBounds_toArray, List.set_cons_zero, List.set_cons_succ]
    refine regTake (i := 10) (v := ?vn18_10) rfl (by kernel_rfl) (by kernel_rfl) (by kernel_rfl) (fun _ _ _ h => h) (Or.inl ⟨by rfl, ?hyn18_10⟩) (by assumption) ?_
    case hyn18_10 => (intro w hSw; (try dsimp only at hSw); go_simp; (try with_reducible rfl))
    try simp only [Act.put, List.setIfInBounds_toArray, List.set_cons_zero, List.set_cons_succ]
    refine regTake (i := 11) (v := ?vn18_11) rfl (by kernel_rfl) (by kernel_rfl) (by kernel_rfl) (fun _ _ _ h => h) (Or.inl ⟨by rfl, ?hyn18_11⟩) (by assumption) ?_
    case hyn18_11 => (intro w hSw; (try dsimp only at hSw); go_simp; (try with_reducible rfl))
    try simp only [Act.put, List.setIfInBounds_toArray, List.set_cons_zero, List.set_cons_succ]
    refine wpAnyH_ready (rs := [12]) (by kernel_rfl) (by simp) ?_
    refine regCons rfl (fun K hK => ?_)
    go_simp
    refine (HIH.out x x' _ _ _ _ _ HP.out.1 HP.out.2.2.1 (H.out.1.below (below_drew _)) (H.out.2.2.1.below (below_drew _))).mono ?_
    rw [HA.out]
    rintro e w1 ⟨rfl, hb1⟩
    have hk0 := below_trans (below_drew ((w.alloc (Obj.cells #[.int .i64 5, .slice (some ⟨bf, of, none⟩) 2 cf] 25)).alloc (Obj.cells #[.int .i64 5, .slice (some ⟨bt, ot, none⟩) 2 ct] 25))) hb1
    refine hK.out _ _ ?_ (fun hS1 => ?_)
    · (refine (fun hB => ⟨hB, cell_keep x0 hB, cell_keep x1 hB, cell_keep x2 hB, cell_keep x3 hB, cell_keep d0 hB, cell_keep d1 hB, cell_keep d2 hB, cell_keep d3 hB, cell_keep e0 hB, cell_keep e1 hB, cell_keep e2 hB, cell_keep e3 hB⟩ : Below (((w.alloc (Obj.cells #[.int .i64 5, .slice (some ⟨bf, of, none⟩) 2 cf] 25)).alloc (Obj.cells #[.int .i64 5, .slice (some ⟨bt, ot, none⟩) 2 ct] 25))).heap.size ((w.alloc (Obj.cells #[.int .i64 5, .slice (some ⟨bf, of, none⟩) 2 cf] 25)).alloc (Obj.cells #[.int .i64 5, .slice (some ⟨bt, ot, none⟩) 2 ct] 25)) _ → _) ?_; exact hk0)
    clear hK K hS0
    try simp only [Act.put, List.setIfInBounds_toArray, List.set_cons_zero, List.set_cons_succ]
    refine regTake (i := 13) (v := ?vn18_13) rfl (by kernel_rfl) (by kernel_rfl) (by kernel_rfl) (fun _ _ _ h => h) (Or.inl ⟨by rfl, ?hyn18_13⟩) (by assumption) ?_
    case hyn18_13 => (intro w hSw; (try dsimp only at hSw); go_simp; (try with_reducible rfl))
    try simp only [Act.put, List.setIfInBounds_toArray, List.set_cons_zero, List.set_cons_succ]
    refine regTake (i := 14) (v := ?vn18_14) rfl (by kernel_rfl) (by kernel_rfl) (by kernel_rfl) (fun _ _ _ h => h) (Or.inl ⟨by rfl, ?hyn18_14⟩) (by assumption) ?_
    case hyn18_14 => (intro w hSw; (try dsimp only at hSw); go_simp; (try with_reducible rfl))
    try simp only [Act.put, List.setIfInBounds_toArray, List.set_cons_zero, List.set_cons_succ]
    refine regTake (i := 15) (v := ?vn18_15) rfl (by kernel_rfl) (by kernel_rfl) (by kernel_rfl) (fun _ _ _ h => h) (Or.inl ⟨by rfl, ?hyn18_15⟩) (by assumption) ?_
    case hyn18_15 => (intro w hSw; (try dsimp only at hSw); go_simp; (try with_reducible rfl))
    try simp only [Act.put, List.setIfInBounds_toArray, List.set_cons_zero, List.set_cons_succ]
    refine regTake (i := 16) (v := ?vn18_16) rfl (by kernel_rfl) (by kernel_rfl) (by kernel_rfl) (fun _ _ _ h => h) (Or.inl ⟨by rfl, ?hyn18_16⟩) (by assumption) ?_
    case hyn18_16 => (intro w hSw; (try dsimp only at hSw); go_simp; (try with_reducible rfl))
    try simp only [Act.put, List.setIfInBounds_toArray, List.set_cons_zero, List.set_cons_succ]
    refine regTake (i := 17) (v := ?vn18_17) rfl (by kernel_rfl) (by kernel_rfl) (by kernel_rfl) (fun _ _ _ h => h) (Or.inl ⟨by rfl, ?hyn18_17⟩) (by assumption) ?_
    case hyn18_17 => (intro w hSw; (try dsimp only at hSw); go_simp; (try with_reducible rfl))
    try simp only [Act.put, List.setIfInBounds_toArray, List.set_cons_zero, List.set_cons_succ]
    refine regTake (i := 18) (v := ?vn18_18) rfl (by kernel_rfl) (by kernel_rfl) (by kernel_rfl) (fun _ _ _ h => h) (Or.inl ⟨by rfl, ?hyn18_18⟩) (by assumption) ?_
    case hyn18_18 => (intro w hSw; (try dsimp only at hSw); go_simp; (try with_reducible rfl))
    try simp only [Act.put, List.setIfInBounds_toArray, List.set_cons_zero, List.set_cons_succ]
    refine regTake (i := 19) (v := ?vn18_19) rfl (by kernel_rfl) (by kernel_rfl) (by kernel_rfl) (fun _ _ _ h => h) (Or.inl ⟨by rfl, ?hyn18_19⟩) (by assumption) ?_
    case hyn18_19 => (intro w hSw; (try dsimp only at hSw); go_simp; (try with_reducible rfl))
    try simp only [Act.put, List.setIfInBounds_toArray, List.set_cons_zero, List.set_cons_succ]
    refine regTake (i := 20) (v := ?vn18_20) rfl (by kernel_rfl) (by kernel_rfl) (by kernel_rfl) (fun _ _ _ h => h) (Or.inl ⟨by rfl, ?hyn18_20⟩) (by assumption) ?_
    case hyn18_20 => (intro w hSw; (try dsimp only at hSw); go_simp; (try with_reducible rfl))
    try simp only [Act.put, List.setIfInBounds_toArray, List.set_cons_zero, List.set_cons_succ]
    refine regTake (i := 21) (v := ?vn18_21) rfl (by kernel_rfl) (by kernel_rfl) (by kernel_rfl) (fun _ _ _ h => h) (Or.inl ⟨by rfl, ?hyn18_21⟩) (by assumption) ?_
    case hyn18_21 => (intro w hSw; (try dsimp only at hSw); go_simp; (try with_reducible rfl))
    try simp only [Act.put, List.setIfInBounds_toArray, List.set_cons_zero, List.set_cons_succ]
    refine wpAnyH_ready (rs := [22]) (by kernel_rfl) (by simp) ?_
    refine regCons rfl (fun K hK => ?_)
    go_simp
    refine (HIH.out y y' _ _ _ _ _ HP.out.2.1 HP.out.2.2.2 (H.out.2.1.below hk0) (H.out.2.2.2.below hk0)).mono ?_
    rw [HB.out]
    rintro e w2 ⟨rfl, hb2⟩
    have hk1 := below_trans hk0 hb2
    refine hK.out _ _ ?_ (fun hS2 => ?_)
    · (refine (fun hB => ⟨hB, cell_keep x0 hB, cell_keep x1 hB, cell_keep x2 hB, cell_keep x3 hB, cell_keep d0 hB, cell_keep d1 hB, cell_keep d2 hB, cell_keep d3 hB, cell_keep e0 hB, cell_keep e1 hB, cell_keep e2 hB, cell_keep e3 hB⟩ : Below (((w.alloc (Obj.cells #[.int .i64 5, .slice (some ⟨bf, of, none⟩) 2 cf] 25)).alloc (Obj.cells #[.int .i64 5, .slice (some ⟨bt, ot, none⟩) 2 ct] 25))).heap.size ((w.alloc (Obj.cells #[.int .i64 5, .slice (some ⟨bf, of, none⟩) 2 cf] 25)).alloc (Obj.cells #[.int .i64 5, .slice (some ⟨bt, ot, none⟩) 2 ct] 25)) _ → _) ?_; exact hk1)
    clear hK K hS1
    try simp only [Act.put, List.setIfInBounds_toArray, List.set_cons_zero, List.set_cons_succ]
    refine regTake (i := 23) (v := .bool B) rfl (by kernel_rfl) (by kernel_rfl) (by kernel_rfl) (fun _ _ _ h => h) (Or.inl ⟨by rfl, ?hyn18_23⟩) (by assumption) ?_
    case hyn18_23 => (intro w hSw; (try dsimp only at hSw); go_simp; (try with_reducible rfl))
    try simp only [Act.put, List.setIfInBounds_toArray, List.set_cons_zero, List.set_cons_succ]
    refine regTake (i := 24) (v := .bool B) rfl (by kernel_rfl) (by kernel_rfl) (by kernel_rfl) (fun _ _ _ h => h) (Or.inl ⟨by rfl, ?hyn18_24⟩) (by assumption) ?_
    case hyn18_24 => (intro w hSw; (try dsimp only at hSw); go_simp; (try with_reducible rfl))
    try simp only [Act.put, List.setIfInBounds_toArray, List.set_cons_zero, List.set_cons_succ]
    refine regTake (i := 25) (v := ?vn18_25) rfl (by kernel_rfl) (by kernel_rfl) (by kernel_rfl) (fun _ _ _ h => h) (Or.inl ⟨by rfl, ?hyn18_25⟩) (by assumption) ?_
    case hyn18_25 => (intro w hSw; (try dsimp only at hSw); go_simp; (try with_reducible rfl))
    try simp only [Act.put, List.setIfInBounds_toArray, List.set_cons_zero, List.set_cons_succ]
    refine wpAnyH_done (by kernel_rfl) ?_ _
    go_wp2_with fail
    go_ret
    exact ⟨ret_b rfl, below_trans hb0 (hk1)⟩

theorem sub8_same (d : Nat) (ih : SuC d) (a b : Ty) (h : SameK d a b) (v1 v2 : Value) (f1 f2 : List Nat) (w : World) (h1 : a.At w v1 f1) (h2 : b.At w v2 f2) :
    Calls Try.prog 93 #[v1, v2] w (fun e w' => e = .returned (.bool (subS (sub d) 0 (kindT a) (kidsT8 a) (kidsT8 b))) ∧ Below w.heap.size w w') := by
  cases h with
  | leaf k hk => exact sub_leaf k hk v1 v2 f1 f2 w h1 h2
  | two k x y x' y' hk hx hy hx' hy' =>
    rcases hk with rfl | rfl
    · exact sub_two4 d ih x y x' y' v1 v2 f1 f2 w hx hy hx' hy' h1 h2
    · exact sub_two5 d ih x y x' y' v1 v2 f1 f2 w hx hy hx' hy' h1 h2

set_option maxRecDepth 100000 in
set_option maxHeartbeats 4000000 in
theorem pos_step (d : Nat) (ih : PoC d) (ihn : NeC d) : PoC (d + 1) := by
  intro a b v1 v2 f1 f2 w ha hb h1 h2
  by_cases hkb : kindT b = 1
  · have HT := hid (show sub (d + 1) 1 a b = true by
      by_cases hka : kindT a = 1
      · rw [sub_any1 _ _ _ _ hka, hkb]; rfl
      · rw [sub_any2 _ _ _ _ hka hkb]; rfl)
    clear ih ihn
    obtain ⟨ka, ta, rfl⟩ := a.shape
    obtain ⟨kb, tb, rfl⟩ := b.shape
    have h1' := h1
    have h2' := h2
    obtain ⟨s1, rfl, hs1⟩ := Ty.at_mk.1 h1
    obtain ⟨s2, rfl, hs2⟩ := Ty.at_mk.1 h2
    obtain ⟨a1, c1, rfl⟩ := hs1.shape
    obtain ⟨a2, c2, rfl⟩ := hs2.shape
    have hkb' : kb = 1 := hkb
    subst hkb'
    have hb0 : Below w.heap.size w ((w.alloc (Obj.cells #[.int .i64 ka, .slice a1 ta.length c1] 25)).alloc (Obj.cells #[.int .i64 1, .slice a2 tb.length c2] 25)) := ((Below.refl _ _).alloc (Nat.le_refl _) _).alloc (by simp) _
    clear h1 h2 hs1 hs2 h1' h2' ha hb hkb
    go_enter Try.func94, Try.ntmps94
    go_wp2_with fail
    go_ret
    exact ⟨ret_b HT.out.symm, hb0⟩
  by_cases hkk : kindT a = kindT b
  · have hka : kindT a ≠ 1 := fun e => hkb (hkk ▸ e)
    rw [sub_same _ _ _ _ hka hkb hkk]
    exact pos8_same d ih ihn a b (sameK_of ha hb hka hkk) v1 v2 f1 f2 w h1 h2
  · have HT := hid (show sub (d + 1) 1 a b = false by
      by_cases hka : kindT a = 1
      · rw [sub_any1 _ _ _ _ hka]
        have : (kindT b == 1) = false := by rw [beq_eq_false_iff_ne]; exact hkb
        rw [this]; rfl
      · exact sub_diff _ _ _ _ hka hkb hkk)
    clear ih ihn
    obtain ⟨ka, ta, rfl⟩ := a.shape
    obtain ⟨kb, tb, rfl⟩ := b.shape
    have h1' := h1
    have h2' := h2
    obtain ⟨s1, rfl, hs1⟩ := Ty.at_mk.1 h1
    obtain ⟨s2, rfl, hs2⟩ := Ty.at_mk.1 h2
    obtain ⟨a1, c1, rfl⟩ := hs1.shape
    obtain ⟨a2, c2, rfl⟩ := hs2.shape
    have hkb' : (kb == 1) = false := by rw [beq_eq_false_iff_ne]; exact hkb
    have hkk' : (ka == kb) = false := by rw [beq_eq_false_iff_ne]; exact hkk
    have hkk2 : (ka != kb) = true := by rw [bne_iff_ne]; exact hkk
    have hb0 : Below w.heap.size w ((w.alloc (Obj.cells #[.int .i64 ka, .slice a1 ta.length c1] 25)).alloc (Obj.cells #[.int .i64 kb, .slice a2 tb.length c2] 25)) := ((Below.refl _ _).alloc (Nat.le_refl _) _).alloc (by simp) _
    clear h1 h2 hs1 hs2 h1' h2' ha hb hkb hkk
    go_enter Try.func94, Try.ntmps94
    go_wp2_with fail
    go_ret
    exact ⟨ret_b HT.out.symm, hb0⟩

set_option maxRecDepth 100000 in
set_option maxHeartbeats 4000000 in
theorem neg_step (d : Nat) (hd4 : d + 1 ≤ 4) (ih : NeC d) (ihn : PoC d) : NeC (d + 1) := by
  intro a b v1 v2 f1 f2 w ha hb h1 h2
  by_cases hka : kindT a = 1
  · have HT := hid (show sub (d + 1) (-1) a b = true by rw [sub_any1 _ _ _ _ hka]; simp)
    clear ih ihn
    obtain ⟨ka, ta, rfl⟩ := a.shape
    obtain ⟨kb, tb, rfl⟩ := b.shape
    have h1' := h1
    have h2' := h2
    obtain ⟨s1, rfl, hs1⟩ := Ty.at_mk.1 h1
    obtain ⟨s2, rfl, hs2⟩ := Ty.at_mk.1 h2
    obtain ⟨a1, c1, rfl⟩ := hs1.shape
    obtain ⟨a2, c2, rfl⟩ := hs2.shape
    have hka' : ka = 1 := hka
    subst hka'
    have hb0 : Below w.heap.size w ((w.alloc (Obj.cells #[.int .i64 1, .slice a1 ta.length c1] 25)).alloc (Obj.cells #[.int .i64 kb, .slice a2 tb.length c2] 25)) := ((Below.refl _ _).alloc (Nat.le_refl _) _).alloc (by simp) _
    clear h1 h2 hs1 hs2 h1' h2' ha hb hka
    go_enter Try.func95, Try.ntmps95
    go_wp2_with fail
    go_ret
    exact ⟨ret_b HT.out.symm, hb0⟩
  by_cases hkb : kindT b = 1
  · have hT := sub_any2 d (-1) a b hka hkb
    have hsk : SameK d a (gk (kindT a)) := sameK_of ha (shp_gk8 ha) hka rfl
    have HT := hid (show sub (d + 1) (-1) a b = subS (sub d) (-1) (kindT a) (kidsT8 a) (kidsT8 (gk (kindT a))) by rw [hT]; simp)
    have HSM := hid (fun v1 v2 f1 f2 w h1 h2 => neg8_same d ih ihn a (gk (kindT a)) hsk v1 v2 f1 f2 w h1 h2)
    have HGG := hid (grd_gk (shp_wf8 ha))
    have HWF := hid ha
    have hcn : a.cnt ≤ 1048576 := shp_cnt8 ha hd4
    have HCN := hid hcn
    clear hT hsk hcn
    generalize hr : subS (sub d) (-1) (kindT a) (kidsT8 a) (kidsT8 (gk (kindT a))) = r at *
    clear hr ih ihn
    obtain ⟨ka, ta, rfl⟩ := a.shape
    obtain ⟨kb, tb, rfl⟩ := b.shape
    have h1' := h1
    have h2' := h2
    obtain ⟨s1, rfl, hs1⟩ := Ty.at_mk.1 h1
    obtain ⟨s2, rfl, hs2⟩ := Ty.at_mk.1 h2
    obtain ⟨a1, c1, rfl⟩ := hs1.shape
    obtain ⟨a2, c2, rfl⟩ := hs2.shape
    have hkb' : kb = 1 := hkb
    subst hkb'
    have hka' : (ka == 1) = false := by rw [beq_eq_false_iff_ne]; exact hka
    generalize hna : ta.length = na at *
    generalize hnb : tb.length = nb at *
    have hb0 : Below w.heap.size w ((w.alloc (Obj.cells #[.int .i64 ka, .slice a1 na c1] 25)).alloc (Obj.cells #[.int .i64 1, .slice a2 nb c2] 25)) := ((Below.refl _ _).alloc (Nat.le_refl _) _).alloc (by simp) _
    obtain ⟨x0, x1, x2, x3⟩ := box_cells2 (Below.refl (((w.alloc (Obj.cells #[.int .i64 ka, .slice a1 na c1] 25)).alloc (Obj.cells #[.int .i64 1, .slice a2 nb c2] 25))).heap.size ((w.alloc (Obj.cells #[.int .i64 ka, .slice a1 na c1] 25)).alloc (Obj.cells #[.int .i64 1, .slice a2 nb c2] 25)))
    have HX := hid (h1'.below hb0)
    clear h1 h2 hs1 hs2 h1' h2' ha hb hka hkb hna hnb
    go_enter Try.func95, Try.ntmps95
    go_wp2_with fail
    refine wp_region_held_drew (S := (fun w' => Below (((w.alloc (Obj.cells #[.int .i64 ka, .slice a1 na c1] 25)).alloc (Obj.cells #[.int .i64 1, .slice a2 nb c2] 25))).heap.size ((w.alloc (Obj.cells #[.int .i64 ka, .slice a1 na c1] 25)).alloc (Obj.cells #[.int .i64 1, .slice a2 nb c2] 25)) w' ∧ w'.cell? ⟨w.heap.size, 0, none⟩ = some (.int .i64 ka) ∧ w'.cell? ⟨w.heap.size, 1, none⟩ = some (.slice a1 na c1) ∧ w'.cell? ⟨w.heap.size + 1, 0, none⟩ = some (.int .i64 1) ∧ w'.cell? ⟨w.heap.size + 1, 1, none⟩ = some (.slice a2 nb c2))) (by kernel_rfl) ?_ (fun hS0 => ?_)
    · (refine (fun hB => ⟨hB, cell_keep x0 hB, cell_keep x1 hB, cell_keep x2 hB, cell_keep x3 hB⟩ : Below (((w.alloc (Obj.cells #[.int .i64 ka, .slice a1 na c1] 25)).alloc (Obj.cells #[.int .i64 1, .slice a2 nb c2] 25))).heap.size ((w.alloc (Obj.cells #[.int .i64 ka, .slice a1 na c1] 25)).alloc (Obj.cells #[.int .i64 1, .slice a2 nb c2] 25)) _ → _) ?_; exact below_drew _)
    refine regTake (i := 0) (v := ?vn19_0) rfl (by kernel_rfl) (by kernel_rfl) (by kernel_rfl) (fun _ _ _ h => h) (Or.inl ⟨by rfl, ?hyn19_0⟩) (by assumption) ?_
    case hyn19_0 => (intro w hSw; (try dsimp only at hSw); go_simp; (try with_reducible rfl))
    try simp only [Act.put, List.setIfInBounds_toArray, List.set_cons_zero, List.set_cons_succ]
    refine regTake (i := 1) (v := ?vn19_1) rfl (by kernel_rfl) (by kernel_rfl) (by kernel_rfl) (fun _ _ _ h => h) (Or.inl ⟨by rfl, ?hyn19_1⟩) (by assumption) ?_
    case hyn19_1 => (intro w hSw; (try dsimp only at hSw); go_simp; (try with_reducible rfl))
    try simp only [Act.put, List.setIfInBounds_toArray, List.set_cons_zero, List.set_cons_succ]
    refine wpAnyH_ready (rs := [2]) (by kernel_rfl) (by simp) ?_
    refine regCons rfl (fun K hK => ?_)
    go_simp
    refine (l1Ground_any _ _ _ _ (HX.out.below (below_drew _)) HCN.out).mono ?_
    rw [HGG.out]
    rintro e w2 ⟨v2, g2, rfl, hat2, hf2, hb2⟩
    obtain ⟨kg, ng, ag, cg, rfl⟩ := hat2.agg
    have hk0 := below_trans (below_drew ((w.alloc (Obj.cells #[.int .i64 ka, .slice a1 na c1] 25)).alloc (Obj.cells #[.int .i64 1, .slice a2 nb c2] 25))) hb2
    refine hK.out _ _ ?_ (fun hS1 => ?_)
    · (refine (fun hB => ⟨hB, cell_keep x0 hB, cell_keep x1 hB, cell_keep x2 hB, cell_keep x3 hB⟩ : Below (((w.alloc (Obj.cells #[.int .i64 ka, .slice a1 na c1] 25)).alloc (Obj.cells #[.int .i64 1, .slice a2 nb c2] 25))).heap.size ((w.alloc (Obj.cells #[.int .i64 ka, .slice a1 na c1] 25)).alloc (Obj.cells #[.int .i64 1, .slice a2 nb c2] 25)) _ → _) ?_; exact hk0)
    clear hK K hS0
    try simp only [Act.put, List.setIfInBounds_toArray, List.set_cons_zero, List.set_cons_succ]
    refine wpAnyH_ready (rs := [3]) (by kernel_rfl) (by simp) ?_
    refine regCons rfl (fun K hK => ?_)
    go_simp
    refine (HSM.out _ _ _ _ _ (HX.out.below hk0) hat2).mono ?_
    rintro e w3 ⟨rfl, hb3⟩
    have hk1 := below_trans hk0 hb3
    refine hK.out _ _ ?_ (fun hS2 => ?_)
    · (refine (fun hB => ⟨hB, cell_keep x0 hB, cell_keep x1 hB, cell_keep x2 hB, cell_keep x3 hB⟩ : Below (((w.alloc (Obj.cells #[.int .i64 ka, .slice a1 na c1] 25)).alloc (Obj.cells #[.int .i64 1, .slice a2 nb c2] 25))).heap.size ((w.alloc (Obj.cells #[.int .i64 ka, .slice a1 na c1] 25)).alloc (Obj.cells #[.int .i64 1, .slice a2 nb c2] 25)) _ → _) ?_; exact hk1)
    clear hK K hS1
    try simp only [Act.put, List.setIfInBounds_toArray, List.set_cons_zero, List.set_cons_succ]
    refine regTake (i := 4) (v := ?vn19_4) rfl (by kernel_rfl) (by kernel_rfl) (by kernel_rfl) (fun _ _ _ h => h) (Or.inl ⟨by rfl, ?hyn19_4⟩) (by assumption) ?_
    case hyn19_4 => (intro w hSw; (try dsimp only at hSw); go_simp; (try with_reducible rfl))
    try simp only [Act.put, List.setIfInBounds_toArray, List.set_cons_zero, List.set_cons_succ]
    refine wpAnyH_done (by kernel_rfl) ?_ _
    go_wp2_with fail
    go_ret
    exact ⟨ret_b HT.out.symm, below_trans hb0 (hk1)⟩
  by_cases hkk : kindT a = kindT b
  · rw [sub_same _ _ _ _ hka hkb hkk]
    exact neg8_same d ih ihn a b (sameK_of ha hb hka hkk) v1 v2 f1 f2 w h1 h2
  · have HT := hid (sub_diff d (-1) a b hka hkb hkk)
    clear ih ihn
    obtain ⟨ka, ta, rfl⟩ := a.shape
    obtain ⟨kb, tb, rfl⟩ := b.shape
    have h1' := h1
    have h2' := h2
    obtain ⟨s1, rfl, hs1⟩ := Ty.at_mk.1 h1
    obtain ⟨s2, rfl, hs2⟩ := Ty.at_mk.1 h2
    obtain ⟨a1, c1, rfl⟩ := hs1.shape
    obtain ⟨a2, c2, rfl⟩ := hs2.shape
    have hka' : (ka == 1) = false := by rw [beq_eq_false_iff_ne]; exact hka
    have hkb' : (kb == 1) = false := by rw [beq_eq_false_iff_ne]; exact hkb
    have hkk' : (ka == kb) = false := by rw [beq_eq_false_iff_ne]; exact hkk
    have hkk2 : (ka != kb) = true := by rw [bne_iff_ne]; exact hkk
    have hb0 : Below w.heap.size w ((w.alloc (Obj.cells #[.int .i64 ka, .slice a1 ta.length c1] 25)).alloc (Obj.cells #[.int .i64 kb, .slice a2 tb.length c2] 25)) := ((Below.refl _ _).alloc (Nat.le_refl _) _).alloc (by simp) _
    clear h1 h2 hs1 hs2 h1' h2' ha hb hka hkb hkk
    go_enter Try.func95, Try.ntmps95
    go_wp2_with fail
    go_ret
    exact ⟨ret_b HT.out.symm, hb0⟩

set_option maxRecDepth 100000 in
set_option maxHeartbeats 4000000 in
theorem sub_step (d : Nat) (hd4 : d + 1 ≤ 4) (ih : SuC d) : SuC (d + 1) := by
  intro a b v1 v2 f1 f2 w ha hb h1 h2
  by_cases hka : kindT a = 1
  · have HT := hid (show sub (d + 1) 0 a b = (kindT b == 1) by rw [sub_any1 _ _ _ _ hka]; simp)
    clear ih
    obtain ⟨ka, ta, rfl⟩ := a.shape
    obtain ⟨kb, tb, rfl⟩ := b.shape
    have h1' := h1
    have h2' := h2
    obtain ⟨s1, rfl, hs1⟩ := Ty.at_mk.1 h1
    obtain ⟨s2, rfl, hs2⟩ := Ty.at_mk.1 h2
    obtain ⟨a1, c1, rfl⟩ := hs1.shape
    obtain ⟨a2, c2, rfl⟩ := hs2.shape
    have hka' : ka = 1 := hka
    subst hka'
    have hb0 : Below w.heap.size w ((w.alloc (Obj.cells #[.int .i64 1, .slice a1 ta.length c1] 25)).alloc (Obj.cells #[.int .i64 kb, .slice a2 tb.length c2] 25)) := ((Below.refl _ _).alloc (Nat.le_refl _) _).alloc (by simp) _
    have HK := hid (show kindT (.mk kb tb) = kb from rfl)
    clear h1 h2 hs1 hs2 h1' h2' ha hb hka
    by_cases hkb : kb = 1
    · subst hkb
      go_enter Try.func93, Try.ntmps93
      go_wp2_with fail
      go_ret
      exact ⟨ret_b (by rw [HT.out, HK.out]; rfl), hb0⟩
    · have hkb' : (kb == 1) = false := by rw [beq_eq_false_iff_ne]; exact hkb
      have hkk' : ((1 : Int) == kb) = false := by rw [beq_eq_false_iff_ne]; omega
      have hkk2 : ((1 : Int) != kb) = true := by rw [bne_iff_ne]; omega
      clear hkb
      go_enter Try.func93, Try.ntmps93
      go_wp2_with fail
      go_ret
      exact ⟨ret_b (by rw [HT.out, HK.out, hkb']), hb0⟩
  by_cases hkb : kindT b = 1
  · have hT := sub_any2 d 0 a b hka hkb
    have hsk : SameK d a (gk (kindT a)) := sameK_of ha (shp_gk8 ha) hka rfl
    have HT := hid (show sub (d + 1) 0 a b = subS (sub d) 0 (kindT a) (kidsT8 a) (kidsT8 (gk (kindT a))) by rw [hT]; simp)
    have HSM := hid (fun v1 v2 f1 f2 w h1 h2 => sub8_same d ih a (gk (kindT a)) hsk v1 v2 f1 f2 w h1 h2)
    have HGG := hid (grd_gk (shp_wf8 ha))
    have HWF := hid ha
    have hcn : a.cnt ≤ 1048576 := shp_cnt8 ha hd4
    have HCN := hid hcn
    clear hT hsk hcn
    generalize hr : subS (sub d) 0 (kindT a) (kidsT8 a) (kidsT8 (gk (kindT a))) = r at *
    clear hr ih
    obtain ⟨ka, ta, rfl⟩ := a.shape
    obtain ⟨kb, tb, rfl⟩ := b.shape
    have h1' := h1
    have h2' := h2
    obtain ⟨s1, rfl, hs1⟩ := Ty.at_mk.1 h1
    obtain ⟨s2, rfl, hs2⟩ := Ty.at_mk.1 h2
    obtain ⟨a1, c1, rfl⟩ := hs1.shape
    obtain ⟨a2, c2, rfl⟩ := hs2.shape
    have hkb' : kb = 1 := hkb
    subst hkb'
    have hka' : (ka == 1) = false := by rw [beq_eq_false_iff_ne]; exact hka
    generalize hna : ta.length = na at *
    generalize hnb : tb.length = nb at *
    have hb0 : Below w.heap.size w ((w.alloc (Obj.cells #[.int .i64 ka, .slice a1 na c1] 25)).alloc (Obj.cells #[.int .i64 1, .slice a2 nb c2] 25)) := ((Below.refl _ _).alloc (Nat.le_refl _) _).alloc (by simp) _
    obtain ⟨x0, x1, x2, x3⟩ := box_cells2 (Below.refl (((w.alloc (Obj.cells #[.int .i64 ka, .slice a1 na c1] 25)).alloc (Obj.cells #[.int .i64 1, .slice a2 nb c2] 25))).heap.size ((w.alloc (Obj.cells #[.int .i64 ka, .slice a1 na c1] 25)).alloc (Obj.cells #[.int .i64 1, .slice a2 nb c2] 25)))
    have HX := hid (h1'.below hb0)
    clear h1 h2 hs1 hs2 h1' h2' ha hb hka hkb hna hnb
    go_enter Try.func93, Try.ntmps93
    go_wp2_with fail
    refine wp_region_held_drew (S := (fun w' => Below (((w.alloc (Obj.cells #[.int .i64 ka, .slice a1 na c1] 25)).alloc (Obj.cells #[.int .i64 1, .slice a2 nb c2] 25))).heap.size ((w.alloc (Obj.cells #[.int .i64 ka, .slice a1 na c1] 25)).alloc (Obj.cells #[.int .i64 1, .slice a2 nb c2] 25)) w' ∧ w'.cell? ⟨w.heap.size, 0, none⟩ = some (.int .i64 ka) ∧ w'.cell? ⟨w.heap.size, 1, none⟩ = some (.slice a1 na c1) ∧ w'.cell? ⟨w.heap.size + 1, 0, none⟩ = some (.int .i64 1) ∧ w'.cell? ⟨w.heap.size + 1, 1, none⟩ = some (.slice a2 nb c2))) (by kernel_rfl) ?_ (fun hS0 => ?_)
    · (refine (fun hB => ⟨hB, cell_keep x0 hB, cell_keep x1 hB, cell_keep x2 hB, cell_keep x3 hB⟩ : Below (((w.alloc (Obj.cells #[.int .i64 ka, .slice a1 na c1] 25)).alloc (Obj.cells #[.int .i64 1, .slice a2 nb c2] 25))).heap.size ((w.alloc (Obj.cells #[.int .i64 ka, .slice a1 na c1] 25)).alloc (Obj.cells #[.int .i64 1, .slice a2 nb c2] 25)) _ → _) ?_; exact below_drew _)
    refine regTake (i := 0) (v := ?vn20_0) rfl (by kernel_rfl) (by kernel_rfl) (by kernel_rfl) (fun _ _ _ h => h) (Or.inl ⟨by rfl, ?hyn20_0⟩) (by assumption) ?_
    case hyn20_0 => (intro w hSw; (try dsimp only at hSw); go_simp; (try with_reducible rfl))
    try simp only [Act.put, List.setIfInBounds_toArray, List.set_cons_zero, List.set_cons_succ]
    refine regTake (i := 1) (v := ?vn20_1) rfl (by kernel_rfl) (by kernel_rfl) (by kernel_rfl) (fun _ _ _ h => h) (Or.inl ⟨by rfl, ?hyn20_1⟩) (by assumption) ?_
    case hyn20_1 => (intro w hSw; (try dsimp only at hSw); go_simp; (try with_reducible rfl))
    try simp only [Act.put, List.setIfInBounds_toArray, List.set_cons_zero, List.set_cons_succ]
    refine wpAnyH_ready (rs := [2]) (by kernel_rfl) (by simp) ?_
    refine regCons rfl (fun K hK => ?_)
    go_simp
    refine (l1Ground_any _ _ _ _ (HX.out.below (below_drew _)) HCN.out).mono ?_
    rw [HGG.out]
    rintro e w2 ⟨v2, g2, rfl, hat2, hf2, hb2⟩
    obtain ⟨kg, ng, ag, cg, rfl⟩ := hat2.agg
    have hk0 := below_trans (below_drew ((w.alloc (Obj.cells #[.int .i64 ka, .slice a1 na c1] 25)).alloc (Obj.cells #[.int .i64 1, .slice a2 nb c2] 25))) hb2
    refine hK.out _ _ ?_ (fun hS1 => ?_)
    · (refine (fun hB => ⟨hB, cell_keep x0 hB, cell_keep x1 hB, cell_keep x2 hB, cell_keep x3 hB⟩ : Below (((w.alloc (Obj.cells #[.int .i64 ka, .slice a1 na c1] 25)).alloc (Obj.cells #[.int .i64 1, .slice a2 nb c2] 25))).heap.size ((w.alloc (Obj.cells #[.int .i64 ka, .slice a1 na c1] 25)).alloc (Obj.cells #[.int .i64 1, .slice a2 nb c2] 25)) _ → _) ?_; exact hk0)
    clear hK K hS0
    try simp only [Act.put, List.setIfInBounds_toArray, List.set_cons_zero, List.set_cons_succ]
    refine wpAnyH_ready (rs := [3]) (by kernel_rfl) (by simp) ?_
    refine regCons rfl (fun K hK => ?_)
    go_simp
    refine (HSM.out _ _ _ _ _ (HX.out.below hk0) hat2).mono ?_
    rintro e w3 ⟨rfl, hb3⟩
    have hk1 := below_trans hk0 hb3
    refine hK.out _ _ ?_ (fun hS2 => ?_)
    · (refine (fun hB => ⟨hB, cell_keep x0 hB, cell_keep x1 hB, cell_keep x2 hB, cell_keep x3 hB⟩ : Below (((w.alloc (Obj.cells #[.int .i64 ka, .slice a1 na c1] 25)).alloc (Obj.cells #[.int .i64 1, .slice a2 nb c2] 25))).heap.size ((w.alloc (Obj.cells #[.int .i64 ka, .slice a1 na c1] 25)).alloc (Obj.cells #[.int .i64 1, .slice a2 nb c2] 25)) _ → _) ?_; exact hk1)
    clear hK K hS1
    try simp only [Act.put, List.setIfInBounds_toArray, List.set_cons_zero, List.set_cons_succ]
    refine regTake (i := 4) (v := ?vn20_4) rfl (by kernel_rfl) (by kernel_rfl) (by kernel_rfl) (fun _ _ _ h => h) (Or.inl ⟨by rfl, ?hyn20_4⟩) (by assumption) ?_
    case hyn20_4 => (intro w hSw; (try dsimp only at hSw); go_simp; (try with_reducible rfl))
    try simp only [Act.put, List.setIfInBounds_toArray, List.set_cons_zero, List.set_cons_succ]
    refine wpAnyH_done (by kernel_rfl) ?_ _
    go_wp2_with fail
    go_ret
    exact ⟨ret_b HT.out.symm, below_trans hb0 (hk1)⟩
  by_cases hkk : kindT a = kindT b
  · rw [sub_same _ _ _ _ hka hkb hkk]
    exact sub8_same d ih a b (sameK_of ha hb hka hkk) v1 v2 f1 f2 w h1 h2
  · have HT := hid (sub_diff d 0 a b hka hkb hkk)
    clear ih
    obtain ⟨ka, ta, rfl⟩ := a.shape
    obtain ⟨kb, tb, rfl⟩ := b.shape
    have h1' := h1
    have h2' := h2
    obtain ⟨s1, rfl, hs1⟩ := Ty.at_mk.1 h1
    obtain ⟨s2, rfl, hs2⟩ := Ty.at_mk.1 h2
    obtain ⟨a1, c1, rfl⟩ := hs1.shape
    obtain ⟨a2, c2, rfl⟩ := hs2.shape
    have hka' : (ka == 1) = false := by rw [beq_eq_false_iff_ne]; exact hka
    have hkb' : (kb == 1) = false := by rw [beq_eq_false_iff_ne]; exact hkb
    have hkk' : (ka == kb) = false := by rw [beq_eq_false_iff_ne]; exact hkk
    have hkk2 : (ka != kb) = true := by rw [bne_iff_ne]; exact hkk
    have hb0 : Below w.heap.size w ((w.alloc (Obj.cells #[.int .i64 ka, .slice a1 ta.length c1] 25)).alloc (Obj.cells #[.int .i64 kb, .slice a2 tb.length c2] 25)) := ((Below.refl _ _).alloc (Nat.le_refl _) _).alloc (by simp) _
    clear h1 h2 hs1 hs2 h1' h2' ha hb hka hkb hkk
    go_enter Try.func93, Try.ntmps93
    go_wp2_with fail
    go_ret
    exact ⟨ret_b HT.out.symm, hb0⟩

theorem pn_any : ∀ d, d ≤ 4 → PoC d ∧ NeC d
  | 0, _ => ⟨fun a b v1 v2 f1 f2 w ha => by simp [shp] at ha, fun a b v1 v2 f1 f2 w ha => by simp [shp] at ha⟩
  | d + 1, h => ⟨pos_step d (pn_any d (by omega)).1 (pn_any d (by omega)).2, neg_step d h (pn_any d (by omega)).2 (pn_any d (by omega)).1⟩

theorem su_any : ∀ d, d ≤ 4 → SuC d
  | 0, _ => fun a b v1 v2 f1 f2 w ha => by simp [shp] at ha
  | d + 1, h => sub_step d h (su_any d (by omega))
end Go.Proofs.Ytelbpgdlcnnabaa

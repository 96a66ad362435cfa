/- The specification's l3Type: functions. The specification's l3Type: the other nodes, and all of it. The specification's TypeIn and TypeOf. -/
import Derived.Deep.Cut
import Derived.Test.YtffmpjcjmffdeaaDoorRTs3
import Derived.Test.YtffmpjcjmffdeaaDoorRPkA
import Derived.Test.YtffmpjcjmffdeaaDoorRG13
import Derived.Test.YtffmpjcjmffdeaaDoorRG1
import Derived.Test.YtffmpjcjmffdeaaDoorRPkB
import Derived.Test.YtffmpjcjmffdeaaDoorRCnM
import Derived.Test.YtffmpjcjmffdeaaDoorRG19
namespace Go.Proofs.YtffmpjcjmffdeaaDoor
open Go.RowKit

/-- What a part's typing says, in a box of its own. -/
def KdX (Z : World) (o : Option Ty) (s6 s7 : Value) (wx : World) : Prop :=
  ∃ b6 k n a c f T, s6 = .pointer (some ⟨b6, 0, none⟩) ∧ s7 = .bool o.isSome ∧ (∀ u, o = some u → T = u) ∧ wx.heap[b6]? = some (.cells #[.int .i64 k, .slice a n c] 32 (0, 0)) ∧ T.At wx (.agg #[.int .i64 k, .slice a n c]) f ∧ Fresh Z.heap.size wx f ∧ Z.heap.size ≤ b6 ∧ Below Z.heap.size Z wx

theorem kdx_alloc {Z cur y : World} {o : Option Ty} {T : Ty} {bb : Bool} {k : Int} {n c : Nat} {a : Option Addr} {f : List Nat} (ho : ∀ u, o = some u → T = u) (hob : o.isSome = bb) (hat : T.At y (.agg #[.int .i64 k, .slice a n c]) f) (hf : Fresh cur.heap.size y f) (hB : Below Z.heap.size Z cur) (hb : Below cur.heap.size cur y) :
    KdX Z o (.pointer (some ⟨y.heap.size, 0, none⟩)) (.bool bb) (y.alloc (Obj.cells #[.int .i64 k, .slice a n c] 32)) :=
  have hba := (Below.refl _ y).alloc (Nat.le_refl _) (Obj.cells #[.int .i64 k, .slice a n c] 32)
  ⟨_, k, n, a, c, f, T, rfl, by rw [hob], ho, alloc_new _ _, hat.below hba, (hf.below hba).mono hB.size, Nat.le_trans hB.size hb.size, below_trans (below_trans hB hb) hba⟩

theorem kdx_store {Z cur y : World} {P : Nat} {x0 x1 : Value} {o : Option Ty} {T : Ty} {bb : Bool} {k : Int} {n c : Nat} {a : Option Addr} {f : List Nat} (hq : cur.heap[P]? = some (Obj.cells #[x0, x1] 32)) (hP : Z.heap.size ≤ P) (ho : ∀ u, o = some u → T = u) (hob : o.isSome = bb) (hat : T.At y (.agg #[.int .i64 k, .slice a n c]) f) (hf : Fresh cur.heap.size y f) (hB : Below Z.heap.size Z cur) (hb : Below cur.heap.size cur y) :
    KdX Z o (.pointer (some ⟨P, 0, none⟩)) (.bool bb) ((y.setCell ⟨P, 0, none⟩ (.int .i64 k)).setCell ⟨P, 1, none⟩ (.slice a n c)) := by
  have hlt := lt_of_block hq
  have hQ : y.heap[P]? = some (Obj.cells #[x0, x1] 32) := (hb.block _ hlt).trans hq
  have hne : ∀ b ∈ f, b ≠ P := fun b hm => by have := (hf.2 b hm).1; omega
  exact ⟨_, k, n, a, c, f, T, rfl, by rw [hob], ho, heap_setCell_at (heap_setCell_at hQ _) _, (hat.setCell hne _).setCell hne _, ((hf.setCell hne _).setCell hne _).mono hB.size, hP, ((below_trans hB hb).setCell (p := ⟨P, 0, none⟩) hP _).setCell (p := ⟨P, 1, none⟩) hP _⟩

end Go.Proofs.YtffmpjcjmffdeaaDoor

namespace Go.Proofs.YtffmpjcjmffdeaaDoor
open Go.RowKit

theorem GrowT.empty9 {W : World} {B : Nat} (h : B ≤ W.heap.size) : GrowT B [] (.slice (some ⟨W.heap.size, 0, none⟩) 0 0) [] (W.alloc (Obj.cells #[] 32)) :=
  ⟨[], ⟨rfl, .inr ⟨W.heap.size, 0, #[], rfl, h, alloc_new _ _, Nat.le_refl _, Nat.zero_le _, rfl, rfl⟩⟩, ⟨rfl, rfl⟩, Fresh.nil _ _, by simp⟩

end Go.Proofs.YtffmpjcjmffdeaaDoor

namespace Go.Proofs.YtffmpjcjmffdeaaDoor
open Go.RowKit

/-- What l3Sure makes of a type and a bool. -/
def sureV (b : Bool) (v : Value) : Value := if b then v else .agg #[.int .i64 0, .slice none 0 0]

set_option maxHeartbeats 1000000 in
theorem l3Sure_any (k : Int) (n : Nat) (a : Option Addr) (c : Nat) (b : Bool) (w : World) :
    Calls Tryd.prog 57 #[.agg #[.int .i64 k, .slice a n c], .bool b] w fun e w' => e = .returned (.tuple #[sureV b (.agg #[.int .i64 k, .slice a n c]), .bool b]) ∧ Below w.heap.size w w' := by
  have HB := hid (fun (o : Obj) => (show Below w.heap.size w ((w.alloc (Obj.cells #[.int .i64 k, .slice a n c] 32)).alloc o) from ((Below.refl _ _).alloc (Nat.le_refl _) _).alloc (by simp) _))
  obtain ⟨hq, hr⟩ := two_out (Below.refl (((w.alloc (Obj.cells #[.int .i64 k, .slice a n c] 32)).alloc (Obj.cells #[.int .i64 0, .slice none 0 0] 32))).heap.size ((w.alloc (Obj.cells #[.int .i64 k, .slice a n c] 32)).alloc (Obj.cells #[.int .i64 0, .slice none 0 0] 32)))
  have x0 : (((w.alloc (Obj.cells #[.int .i64 k, .slice a n c] 32)).alloc (Obj.cells #[.int .i64 0, .slice none 0 0] 32))).cell? ⟨w.heap.size, 0, none⟩ = some (.int .i64 k) := by rw [cell_of_block hq]; rfl
  have x1 : (((w.alloc (Obj.cells #[.int .i64 k, .slice a n c] 32)).alloc (Obj.cells #[.int .i64 0, .slice none 0 0] 32))).cell? ⟨w.heap.size, 1, none⟩ = some (.slice a n c) := by rw [cell_of_block hq]; rfl
  have r0 : (((w.alloc (Obj.cells #[.int .i64 k, .slice a n c] 32)).alloc (Obj.cells #[.int .i64 0, .slice none 0 0] 32))).cell? ⟨w.heap.size + 1, 0, none⟩ = some (.int .i64 0) := by rw [cell_of_block hr]; rfl
  have r1 : (((w.alloc (Obj.cells #[.int .i64 k, .slice a n c] 32)).alloc (Obj.cells #[.int .i64 0, .slice none 0 0] 32))).cell? ⟨w.heap.size + 1, 1, none⟩ = some (.slice none 0 0) := by rw [cell_of_block hr]; rfl
  clear hq hr
  cases b
  · go_enter Tryd.func57, Tryd.ntmps57
    go_wp2_with fail
    exact bodyPost_ret (v := .tuple #[.agg #[.int .i64 0, .slice none 0 0], .bool false]) (by simp [results, Tryd.results57, go_sem]) rfl ⟨rfl, HB.out _⟩
  · go_enter Tryd.func57, Tryd.ntmps57
    go_wp2_with fail
    exact bodyPost_ret (v := .tuple #[.agg #[.int .i64 k, .slice a n c], .bool true]) (by simp [results, Tryd.results57, go_sem]) rfl ⟨rfl, HB.out _⟩

end Go.Proofs.YtffmpjcjmffdeaaDoor

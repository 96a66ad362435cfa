/- The program's coerce. -/
import Derived.Test.YtgekfnodmgkdaaaCk
import Derived.Test.YtgekfnodmgkdaaaRgL
namespace Go.Proofs.Ytgekfnodmgkdaaa
open Go.RowKit

theorem coercionOf_any (k : Int) (a : Option Addr) (n cap : Nat) (w : World) : Calls Try.prog 61 #[.int .i64 k, .slice a n cap] w fun e w' => e = .returned (.agg #[.int .i64 k, .int .i64 0, .int .i64 0, .slice a n cap]) ∧ Below w.heap.size w w' := by
  go_enter Try.func61, Try.ntmps61
  go_wp2_with fail
  exact bodyPost_ret (v := .agg #[.int .i64 k, .int .i64 0, .int .i64 0, .slice a n cap]) (by simp [results, Try.results61, go_sem]) rfl ⟨rfl, (Below.refl _ _).alloc (Nat.le_refl _) _⟩

theorem Fresh.comm {B : Nat} {w : World} {f g : List Nat} (h : Fresh B w (f ++ g)) : Fresh B w (g ++ f) := by
  refine ⟨?_, fun b hb => h.2 b (by simp only [List.mem_append] at *; exact hb.symm)⟩
  obtain ⟨h1, h2, h3⟩ := List.nodup_append.1 h.1
  exact List.nodup_append.2 ⟨h2, h1, fun a ha b hb e => h3 b hb a ha e.symm⟩

/-- A coercion stored into a variable of its own. -/
theorem sec_close {W X : World} {b lo : Nat} {t : Co} {x0 x1 x2 x3 : Value} {r : List Nat} (hE : X.heap[b]? = some (Obj.cells #[.int .i64 0, .int .i64 0, .int .i64 0, .slice none 0 0] 44)) (ht : t.At X (.agg #[x0, x1, x2, x3]) r) (hr : Fresh lo X r) (hne : ∀ y ∈ r, y ≠ b) (hb : W.heap.size ≤ b) (hB : Below W.heap.size W X) :
    ∃ wS, wS = put4 X b 0 x0 x1 x2 x3 ∧ wS.heap[b]? = some (Obj.cells #[x0, x1, x2, x3] 44) ∧ t.At wS (.agg #[x0, x1, x2, x3]) r ∧ Fresh lo wS r ∧ Below W.heap.size W wS := by
  refine ⟨_, rfl, heap_setCell_at (heap_setCell_at (heap_setCell_at (heap_setCell_at hE x0) x1) x2) x3, ?_, ?_, put4_below hB hb _ _ _ _⟩
  · exact (((ht.setCell (a := ⟨b, 0, none⟩) hne x0).setCell (a := ⟨b, 0 + 1, none⟩) hne x1).setCell (a := ⟨b, 0 + 2, none⟩) hne x2).setCell (a := ⟨b, 0 + 3, none⟩) hne x3
  · exact (((hr.setCell (a := ⟨b, 0, none⟩) hne x0).setCell (a := ⟨b, 0 + 1, none⟩) hne x1).setCell (a := ⟨b, 0 + 2, none⟩) hne x2).setCell (a := ⟨b, 0 + 3, none⟩) hne x3

/-- What projectOf hands back: its operand lies in a row of its own. -/
def PrjX (w : World) (l : Int) (vs : Array Value) (e : Ending) (w' : World) : Prop :=
  ∃ b, e = .returned (.agg #[.int .i64 5, .int .i64 0, .int .i64 l, .slice (some ⟨b, 0, none⟩) 1 1]) ∧ w'.heap[b]? = some (Obj.cells vs 44) ∧ w.heap.size ≤ b ∧ Below w.heap.size w w'

theorem projectOf_any (l p0 p1 p2 : Int) (pa : Option Addr) (pn pc : Nat) (w : World) : Calls Try.prog 58 #[.int .i64 l, .agg #[.int .i64 p0, .int .i64 p1, .int .i64 p2, .slice pa pn pc]] w (PrjX w l #[.int .i64 p0, .int .i64 p1, .int .i64 p2, .slice pa pn pc]) := by
  have HR := hid (fun (o1 o2 o3 : Obj) => three3 (o1 := o1) (o2 := o2) (o3 := o3) (Below.refl (((w.alloc o1).alloc o2).alloc o3).heap.size (((w.alloc o1).alloc o2).alloc o3)))
  have HB := hid (fun (o1 o2 o3 : Obj) => ((((Below.refl w.heap.size w).alloc (Nat.le_refl _) o1).alloc (by simp) o2).alloc (by simp; omega) o3))
  go_enter Try.func58, Try.ntmps58
  go_wp2_with fail
  first
    | exact bodyPost_ret (v := .agg #[.int .i64 5, .int .i64 0, .int .i64 l, .slice (some ⟨w.heap.size + 1 + 1, 0, none⟩) 1 1]) (by simp [results, Try.results58, go_sem]) rfl ⟨_, rfl, (HR.out _ _ _).2.2, by omega, HB.out _ _ _⟩
    | exact bodyPost_ret (v := .agg #[.int .i64 5, .int .i64 0, .int .i64 l, .slice (some ⟨w.heap.size + 1, 0, none⟩) 1 1]) (by simp [results, Try.results58, go_sem]) rfl ⟨_, rfl, (HR.out _ _ _).2.1, by omega, HB.out _ _ _⟩

theorem id_made (w : World) (k : Int) (o1 o2 : Obj) (C : Array Value) (T : TypeId) (fz : Nat × Nat) : MadeC w (.mk 1 k 0 []) (.returned (.agg #[.int .i64 1, .int .i64 k, .int .i64 0, .slice none 0 0])) (((w.alloc o1).alloc o2).alloc (.cells C T fz)) :=
  ⟨_, [], rfl, Co.at_mk.2 ⟨.slice none 0 0, rfl, CSl.nilA⟩, Fresh.nil _ _, (((Below.refl _ _).alloc (Nat.le_refl _) _).alloc (by simp) _).alloc (by simp; omega) _⟩

end Go.Proofs.Ytgekfnodmgkdaaa

/- A tree of two operands laid in a block of its own. -/
import Derived.Test.YtelbpgdlcnnabaaPkA
namespace Go.Proofs.Ytelbpgdlcnnabaa
open Go.RowKit

theorem two_in {S M B R : Nat} {y X : World} {k k3 k4 : Int} {n3 n4 c3 c4 : Nat} {a3 a4 : Option Addr} {t u : Ty} {g1 g2 : List Nat} {T : TypeId} (hu1 : t.At y (.agg #[.int .i64 k3, .slice a3 n3 c3]) g1) (hu2 : u.At y (.agg #[.int .i64 k4, .slice a4 n4 c4]) g2) (hg1 : Fresh S y g1) (hg2 : Fresh M y g2)
    (hM : ∀ b ∈ g1, b < M) (hS : S ≤ M) (hSB : S ≤ y.heap.size) (hB : y.heap.size ≤ B) (hX : X.heap[B]? = some (.cells #[.int .i64 k3, .slice a3 n3 c3, .int .i64 k4, .slice a4 n4 c4] T (0, 0))) (hk : ∀ b, b < y.heap.size → b ≠ R → X.heap[b]? = y.heap[b]?) (h1 : ∀ b ∈ g1, b ≠ R) (h2 : ∀ b ∈ g2, b ≠ R) :
    (Ty.mk k [t, u]).At X (.agg #[.int .i64 k, .slice (some ⟨B, 0, none⟩) 2 2]) (B :: (g1 ++ (g2 ++ []))) ∧ Fresh S X (B :: (g1 ++ (g2 ++ []))) := by
  have e1 : ∀ b ∈ g1, X.heap[b]? = y.heap[b]? := fun b hb => hk b (hg1.2 b hb).2.1 (h1 b hb)
  have e2 : ∀ b ∈ g2, X.heap[b]? = y.heap[b]? := fun b hb => hk b (hg2.2 b hb).2.1 (h2 b hb)
  have hXs := lt_of_block hX
  refine ⟨Ty.at_mk.2 ⟨_, rfl, .inr ⟨B, 0, 2, _, rfl, by simp, by simp, by simp [maxLen], ⟨_, _, g1, g2 ++ [], by rw [cell_of_block hX]; rfl, by rw [cell_of_block hX]; rfl, hu1.congr (fun b hb o => by simp [World.cell?, e1 b hb]), ⟨_, _, g2, [], by rw [cell_of_block hX]; rfl, by rw [cell_of_block hX]; rfl, hu2.congr (fun b hb o => by simp [World.cell?, e2 b hb]), rfl, rfl⟩, rfl⟩, rfl⟩⟩, ?_⟩
  rw [List.append_nil]
  refine ⟨List.nodup_cons.2 ⟨fun hm => ?_, List.nodup_append.2 ⟨hg1.1, hg2.1, fun a ha b hb he => ?_⟩⟩, fun b hb => ?_⟩
  · rcases List.mem_append.1 hm with hm | hm
    · have := (hg1.2 B hm).2.1
      omega
    · have := (hg2.2 B hm).2.1
      omega
  · have := hM a ha
    have := (hg2.2 b hb).1
    omega
  · rcases List.mem_cons.1 hb with rfl | hb
    · exact ⟨by omega, hXs, fun o => frozen_of_block hX⟩
    · rcases List.mem_append.1 hb with hb | hb
      · have h := hg1.2 b hb
        refine ⟨h.1, by omega, fun o => ?_⟩
        rw [← h.2.2 o]
        simp [World.frozen?, e1 b hb]
      · have h := hg2.2 b hb
        refine ⟨Nat.le_trans hS h.1, by omega, fun o => ?_⟩
        rw [← h.2.2 o]
        simp [World.frozen?, e2 b hb]

theorem fin_a {y : World} (P Q : Obj) : ((y.alloc P).alloc Q).heap[y.heap.size]? = some P ∧ ((y.alloc P).alloc Q).heap[y.heap.size + 1]? = some Q ∧ ∀ b, b < y.heap.size → b ≠ y.heap.size → ((y.alloc P).alloc Q).heap[b]? = y.heap[b]? := by
  have hs : (y.alloc P).heap.size = y.heap.size + 1 := by simp
  refine ⟨(Below.heap_alloc _ _ _ (by simp)).trans (alloc_new _ _), ?_, fun b hb _ => (Below.heap_alloc _ _ _ (by simp; omega)).trans (Below.heap_alloc _ _ _ hb)⟩
  rw [← hs]
  exact alloc_new _ _

theorem fin_b {y : World} {R : Nat} {z0 z1 : Value} {T : TypeId} (h : y.heap[R]? = some (.cells #[z0, z1] T (0, 0))) (a b : Value) (Q : Obj) : (((y.setCell ⟨R, 0, none⟩ a).setCell ⟨R, 1, none⟩ b).alloc Q).heap[y.heap.size]? = some Q ∧ (((y.setCell ⟨R, 0, none⟩ a).setCell ⟨R, 1, none⟩ b).alloc Q).heap[R]? = some (.cells #[a, b] T (0, 0)) ∧
    ∀ i, i < y.heap.size → i ≠ R → (((y.setCell ⟨R, 0, none⟩ a).setCell ⟨R, 1, none⟩ b).alloc Q).heap[i]? = y.heap[i]? := by
  have hR := lt_of_block h
  have hs : ((y.setCell ⟨R, 0, none⟩ a).setCell ⟨R, 1, none⟩ b).heap.size = y.heap.size := by simp
  refine ⟨?_, ?_, fun i hi hn => ?_⟩
  · rw [← hs]
    exact alloc_new _ _
  · rw [Below.heap_alloc _ _ _ (by rw [hs]; exact hR)]
    exact heap_setCell_at (heap_setCell_at h _) _
  · rw [Below.heap_alloc _ _ _ (by rw [hs]; exact hi)]
    exact (Below.heap_setCell _ ⟨R, 1, none⟩ _ i hn).trans (Below.heap_setCell _ ⟨R, 0, none⟩ _ i hn)
end Go.Proofs.Ytelbpgdlcnnabaa

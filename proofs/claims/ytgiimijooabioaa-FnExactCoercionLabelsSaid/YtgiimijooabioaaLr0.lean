/- What a visit leaves: worlds in which only new blocks, one variable and a slice's own block are written. -/
import Derived.Test.YtgiimijooabioaaCo
namespace Go.Proofs.Ytgiimijooabioaa
open Go.RowKit

def CallOkT (fa : FuncId) : Prop := ∀ (args : Array Value) (w : World), (callFunc fa args).run Try.prog w = .ok (.enter fa args) w

theorem blk {w w' : World} {M : Nat} {o : Obj} (h : w.heap[M]? = some o) (hb : Below w.heap.size w w') : w'.heap[M]? = some o := (hb.block _ (lt_of_block h)).trans h

/-- From w to w' only new blocks, block M and v's own block have been written. -/
def Lr (M : Nat) (w w' : World) (v v' : Value) : Prop := (w'.os = w.os ∧ w'.tape = w.tape ∧ w'.output = w.output ∧ w.heap.size ≤ w'.heap.size) ∧ (∀ k, k < w.heap.size → k ≠ M → some k ≠ v.ownBlock → w'.heap[k]? = w.heap[k]?) ∧ (v'.ownBlock = v.ownBlock ∨ ∃ b, v'.ownBlock = some b ∧ w.heap.size ≤ b)

theorem Lr.of_below {M : Nat} {w w' : World} (h : Below w.heap.size w w') (v : Value) : Lr M w w' v v := ⟨⟨h.os, h.tape, h.output, h.size⟩, fun k hk _ _ => h.block k hk, .inl rfl⟩

theorem Lr.trans {M : Nat} {a b c : World} {x y z : Value} (h : Lr M a b x y) (k : Lr M b c y z) : Lr M a c x z := by
  obtain ⟨⟨h1, h2, h3, h4⟩, h5, h6⟩ := h
  obtain ⟨⟨k1, k2, k3, k4⟩, k5, k6⟩ := k
  refine ⟨⟨k1.trans h1, k2.trans h2, k3.trans h3, Nat.le_trans h4 k4⟩, fun i hi hM hn => ?_, ?_⟩
  · rw [k5 i (Nat.lt_of_lt_of_le hi h4) hM ?_, h5 i hi hM hn]
    rcases h6 with h6 | ⟨b, h6, hb⟩
    · rw [h6]; exact hn
    · rw [h6]
      intro e
      have := Option.some.inj e
      omega
  · rcases k6 with k6 | ⟨b, k6, hb⟩
    · rcases h6 with h6 | ⟨b, h6, hb⟩
      · exact .inl (k6.trans h6)
      · exact .inr ⟨b, k6.trans h6, hb⟩
    · exact .inr ⟨b, k6, Nat.le_trans h4 hb⟩

theorem Lr.heap {M : Nat} {w w' : World} {v v' : Value} (h : Lr M w w' v v') {k : Nat} {o : Obj} (hk : w.heap[k]? = some o) (hM : k ≠ M) (hn : some k ≠ v.ownBlock) : w'.heap[k]? = some o := (h.2.1 k (lt_of_block hk) hM hn).trans hk

theorem Lr.below {M B : Nat} {w w' : World} {v v' : Value} (h : Lr M w w' v v') (hMB : M < B) (hB : B ≤ w.heap.size) (ho : ∀ b, v.ownBlock = some b → B ≤ b) : Below M w w' :=
  ⟨h.1.1, h.1.2.1, h.1.2.2.1, h.1.2.2.2, fun k hk => h.2.1 k (by omega) (by omega) (fun e => by have := ho k e.symm; omega)⟩

theorem mne {M B g S s0 : Nat} {v : Value} (ho : ∀ b, v.ownBlock = some b → B ≤ b ∧ b < s0) (hMB : M < B) (hat : v.ownBlock = some g ∨ g = S) (hM : M < S) : M ≠ g := by
  rcases hat with h | h
  · have := (ho g h).1
    omega
  · omega

end Go.Proofs.Ytgiimijooabioaa

/- Blocks of terms under construction: nine stores an element. -/
import Derived.Test.YtbmlodikfmpfoaaDoorTm
namespace Go.Proofs.YtbmlodikfmpfoaaDoor
open Go.RowKit

/-- Consecutive stores into one block. -/
def put (w : World) (b : Nat) : Nat → List Value → World
  | _, [] => w
  | o, v :: vs => put (w.setCell ⟨b, o, none⟩ v) b (o + 1) vs

def putA (C : Array Value) : Nat → List Value → Array Value
  | _, [] => C
  | o, v :: vs => putA (C.setIfInBounds o v) (o + 1) vs

theorem putA_size : ∀ (vs : List Value) (C : Array Value) (o : Nat), (putA C o vs).size = C.size
  | [], _, _ => rfl
  | v :: vs, C, o => by simp [putA, putA_size vs]

theorem putA_out : ∀ (vs : List Value) (C : Array Value) (o i : Nat), (i < o ∨ o + vs.length ≤ i) → (putA C o vs)[i]? = C[i]?
  | [], _, _, _, _ => rfl
  | v :: vs, C, o, i, h => by
    simp only [List.length_cons] at h
    rw [putA, putA_out vs _ _ _ (by omega), Array.getElem?_setIfInBounds_ne (by omega)]

theorem putA_in : ∀ (vs : List Value) (C : Array Value) (o i : Nat), i < vs.length → o + vs.length ≤ C.size → (putA C o vs)[o + i]? = vs[i]?
  | [], _, _, _, h, _ => by simp at h
  | v :: vs, C, o, i, h, hs => by
    simp only [List.length_cons] at h hs
    cases i with
    | zero =>
      rw [putA, putA_out _ _ _ _ (by omega)]
      simp [Array.getElem?_setIfInBounds]
      omega
    | succ i =>
      rw [putA, show o + (i + 1) = o + 1 + i by omega, putA_in vs _ _ i (by omega) (by simp; omega)]
      simp

theorem heap_put {b : Nat} {T : TypeId} {fz : Nat × Nat} : ∀ {vs : List Value} {w : World} {C : Array Value} {o : Nat}, w.heap[b]? = some (.cells C T fz) → (put w b o vs).heap[b]? = some (.cells (putA C o vs) T fz)
  | [], _, _, _, h => h
  | v :: vs, w, C, o, h => by
    rw [put, putA]
    exact heap_put (heap_setCell_at h v)

theorem Above.put {lo b : Nat} {a : World} : ∀ {vs : List Value} {w : World} {o : Nat}, Above lo a w → b < lo → Above lo a (put w b o vs)
  | [], _, _, h, _ => h
  | v :: vs, w, o, h, hb => by
    rw [Go.Proofs.YtbmlodikfmpfoaaDoor.put]
    exact Above.put (h.setCell hb v) hb

theorem below_put {B b : Nat} {a : World} : ∀ {vs : List Value} {w : World} {o : Nat}, Below B a w → B ≤ b → Below B a (put w b o vs)
  | [], _, _, h, _ => h
  | v :: vs, w, o, h, hb => by
    rw [put]
    exact below_put (h.setCell hb v) hb

theorem Tm.AtL.congrR {w w' : World} : ∀ {ts : List Tm} {b o : Nat} {fp : List Nat}, Tm.AtL w ts b o fp → (∀ o', o ≤ o' → o' < o + ts.length * 9 → w'.cell? ⟨b, o', none⟩ = w.cell? ⟨b, o', none⟩) → (∀ b ∈ fp, ∀ o, w'.cell? ⟨b, o, none⟩ = w.cell? ⟨b, o, none⟩) → Tm.AtL w' ts b o fp
  | [], _, _, _, h, _, _ => by simp only [Tm.AtL] at h ⊢; exact h
  | t :: ts, b, o, fp, h, hb, hk => by
    simp only [Tm.AtL] at h ⊢
    obtain ⟨cs, f1, f2, hc, ha, hl, rfl⟩ := h
    simp only [List.length_cons] at hb
    exact ⟨cs, f1, f2, fun i hi => (hb _ (by omega) (by omega)).trans (hc i hi), Tm.At.congr ha (fun x hx => hk x (List.mem_append_left _ hx)), Tm.AtL.congrR hl (fun o' h1 h2 => hb o' (by omega) (by omega)) (fun x hx => hk x (List.mem_append_right _ hx)), rfl⟩

theorem Tm.AtL.snoc {w : World} : ∀ {ts : List Tm} {t : Tm} {b o : Nat} {f1 f2 : List Nat} {cs : Array Value}, Tm.AtL w ts b o f1 → (∀ i, i < 9 → w.cell? ⟨b, o + ts.length * 9 + i, none⟩ = cs[i]?) → Tm.At w t (.agg cs) f2 → Tm.AtL w (ts ++ [t]) b o (f1 ++ f2)
  | [], t, b, o, f1, f2, cs, h, hc, ha => by
    simp only [Tm.AtL] at h
    subst h
    simp only [List.nil_append, Tm.AtL]
    exact ⟨cs, f2, [], fun i hi => by simpa using hc i hi, ha, rfl, by simp⟩
  | u :: ts, t, b, o, f1, f2, cs, h, hc, ha => by
    simp only [Tm.AtL] at h
    obtain ⟨ds, g1, g2, hd, hu, hl, rfl⟩ := h
    simp only [List.length_cons] at hc
    simp only [List.cons_append, Tm.AtL]
    refine ⟨ds, g1, g2 ++ f2, hd, hu, Tm.AtL.snoc hl (fun i hi => ?_) ha, by simp⟩
    rw [show o + 9 + ts.length * 9 + i = o + (ts.length + 1) * 9 + i by omega]
    exact hc i hi

/-- A block of n terms of which the first have been laid, each with memory of its own. -/
def BuiltM (M : Nat) (T : TypeId) (n : Nat) (ds : List Tm) (fp : List Nat) (wr : World) : Prop :=
  ∃ C, wr.heap[M]? = some (.cells C T (0, 0)) ∧ C.size = n * 9 ∧ ds.length ≤ n ∧ Tm.AtL wr ds M 0 fp ∧ Fresh (M + 1) wr fp

theorem BuiltM.zero {M : Nat} {T : TypeId} {n : Nat} {w : World} {C : Array Value} (h : w.heap[M]? = some (.cells C T (0, 0))) (hC : C.size = n * 9) : BuiltM M T n [] [] w :=
  ⟨C, h, hC, Nat.zero_le _, by simp only [Tm.AtL], Fresh.nil _ _⟩

theorem BuiltM.below {M : Nat} {T : TypeId} {n : Nat} {ds : List Tm} {fp : List Nat} {w w1 : World} (h : BuiltM M T n ds fp w) (hb : Below w.heap.size w w1) : BuiltM M T n ds fp w1 := by
  obtain ⟨C, hM, hC, hn, hl, hf⟩ := h
  exact ⟨C, (hb.block _ (lt_of_block hM)).trans hM, hC, hn, hl.congr (fun o => hb.cell (p := ⟨M, o, none⟩) (lt_of_block hM)) (fun b hm o => hb.cell (p := ⟨b, o, none⟩) (hl.lt b hm)), hf.below hb⟩

theorem BuiltM.set {M : Nat} {T : TypeId} {n k : Nat} {ds : List Tm} {t : Tm} {vs : List Value} {f fp : List Nat} {w : World} {lo : Nat} (h : BuiltM M T n ds fp w) (hk : ds.length = k) (hlt : k < n) (ht : t.At w (.agg vs.toArray) f) (hlo : Fresh lo w f)
    (hsep : ∀ b ∈ fp, b < lo) (hM : M < lo) : BuiltM M T n (ds ++ [t]) (fp ++ f) (put w M (k * 9) vs) := by
  subst hk
  obtain ⟨C, hB, hC, hn, hl, hf⟩ := h
  have h9 : vs.length = 9 := by simpa using Tm.size9 ht
  have h2 := heap_put (vs := vs) (o := ds.length * 9) hB
  have hab := Above.put (vs := vs) (o := ds.length * 9) (Above.refl (M + 1) w) (Nat.lt_succ_self M)
  have hcl : ∀ o', o' < ds.length * 9 → (put w M (ds.length * 9) vs).cell? ⟨M, o', none⟩ = w.cell? ⟨M, o', none⟩ := by
    intro o' ho
    rw [cell_of_block h2, cell_of_block hB, putA_out _ _ _ _ (.inl ho)]
  have hl' : Tm.AtL (put w M (ds.length * 9) vs) ds M 0 fp :=
    hl.congrR (fun o' _ h' => hcl o' (by omega)) (fun b hb o => World.cell?_of_block (w := w) (a := ⟨b, o, none⟩) (hab.block b (hf.ge b hb) (hl.lt b hb)))
  refine ⟨_, h2, by rw [putA_size]; exact hC, by simp; omega, hl'.snoc (cs := vs.toArray) (fun i hi => ?_) (ht.above hab (fun b hb => by have := hlo.ge b hb; omega)), ?_⟩
  · rw [Nat.zero_add, cell_of_block h2, putA_in _ _ _ _ (by omega) (by omega)]
    simp
  · have hf1 := hf.above hab (Nat.le_refl _)
    have hf2 := hlo.above hab (by omega)
    refine ⟨List.nodup_append.2 ⟨hf1.1, hf2.1, fun a ha b hb e => ?_⟩, fun b hb => ?_⟩
    · have := hsep a ha
      have := hf2.ge b hb
      omega
    · rcases List.mem_append.1 hb with hb | hb
      · exact hf1.2 b hb
      · exact ⟨by have := hf2.ge b hb; omega, (hf2.2 b hb).2⟩

/-- One more element: the call that makes it, then the nine stores. -/
theorem BuiltM.step {M : Nat} {T : TypeId} {n k : Nat} {ds : List Tm} {t : Tm} {vs : List Value} {f fp : List Nat} {w w1 : World} (h : BuiltM M T n ds fp w) (hk : ds.length = k) (hlt : k < n) (hb : Below w.heap.size w w1) (ht : t.At w1 (.agg vs.toArray) f) (hf : Fresh w.heap.size w1 f) :
    BuiltM M T n (ds ++ [t]) (fp ++ f) (put w1 M (k * 9) vs) :=
  (h.below hb).set hk hlt ht hf (let ⟨_, _, _, _, hl, _⟩ := h; hl.lt) (let ⟨_, hB, _⟩ := h; lt_of_block hB)

theorem BuiltM.done {M : Nat} {T : TypeId} {n : Nat} {ds : List Tm} {fp : List Nat} {w : World} (h : BuiltM M T n ds fp w) (hn : ds.length = n) (hm : n ≤ maxLen) : ∃ fp, SmAt w ds (.slice (some ⟨M, 0, none⟩) n n) fp ∧ Fresh M w fp := by
  obtain ⟨C, hB, hC, _, hl, hf⟩ := h
  subst hn
  by_cases h0 : ds.length = 0
  · exact ⟨[], .inl ⟨List.length_eq_zero_iff.1 h0, rfl, _, _, by rw [h0]⟩, Fresh.nil _ _⟩
  · refine ⟨M :: fp, .inr ⟨M, 0, _, fp, rfl, by omega, Nat.le_refl _, hm, hl, rfl⟩, List.nodup_cons.2 ⟨fun hm => by have := hf.ge _ hm; omega, hf.1⟩, fun b hb => ?_⟩
    rcases List.mem_cons.1 hb with rfl | hb
    · exact ⟨Nat.le_refl _, lt_of_block hB, fun o => frozen_of_block hB⟩
    · exact ⟨by have := hf.ge b hb; omega, (hf.2 b hb).2⟩

/-- The block's own cells, as a walk asks for them. -/
theorem BuiltM.cells {M : Nat} {T : TypeId} {n k : Nat} {ds : List Tm} {fp : List Nat} {w w1 : World} (h : BuiltM M T n ds fp w) (hlt : k < n) (hb : Below w.heap.size w w1) :
    (∃ y0 y1 y2 y3 y4 y5 y6 y7 y8, w1.cell? ⟨M, k * 9, none⟩ = some y0 ∧ w1.cell? ⟨M, k * 9 + 1, none⟩ = some y1 ∧ w1.cell? ⟨M, k * 9 + 2, none⟩ = some y2 ∧ w1.cell? ⟨M, k * 9 + 3, none⟩ = some y3 ∧ w1.cell? ⟨M, k * 9 + 4, none⟩ = some y4 ∧
      w1.cell? ⟨M, k * 9 + 5, none⟩ = some y5 ∧ w1.cell? ⟨M, k * 9 + 6, none⟩ = some y6 ∧ w1.cell? ⟨M, k * 9 + 7, none⟩ = some y7 ∧ w1.cell? ⟨M, k * 9 + 8, none⟩ = some y8) ∧ ∀ o, w1.frozen? ⟨M, o, none⟩ = false := by
  obtain ⟨C, hB, hC, _⟩ := h.below hb
  refine ⟨⟨C[k * 9]'(by omega), C[k * 9 + 1]'(by omega), C[k * 9 + 2]'(by omega), C[k * 9 + 3]'(by omega), C[k * 9 + 4]'(by omega), C[k * 9 + 5]'(by omega), C[k * 9 + 6]'(by omega), C[k * 9 + 7]'(by omega), C[k * 9 + 8]'(by omega), ?_⟩, fun o => frozen_of_block hB⟩
  simp only [cell_of_block hB]
  exact ⟨Array.getElem?_eq_getElem _, Array.getElem?_eq_getElem _, Array.getElem?_eq_getElem _, Array.getElem?_eq_getElem _, Array.getElem?_eq_getElem _, Array.getElem?_eq_getElem _, Array.getElem?_eq_getElem _, Array.getElem?_eq_getElem _, Array.getElem?_eq_getElem _⟩

end Go.Proofs.YtbmlodikfmpfoaaDoor

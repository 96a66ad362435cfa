/- Blocks of terms and of types that share their operands' memory, while they are filled and changed. What the program's check says: results that share memory with what was given, and one block that the fitter may write. The program's check: what stands in its two loops. The program's check: what stands between the rounds of its loops. -/
import Derived.Test.YtffmpjcjmffdeaaDoorQRwk
import Derived.Test.YtffmpjcjmffdeaaDoorQG15
import Derived.Test.YtffmpjcjmffdeaaDoorQRuD
namespace Go.Proofs.YtffmpjcjmffdeaaDoor
open Go.RowKit

/-- A block of n terms, of which the first have been laid; none of them reads the block itself. -/
def LaidM (M : Nat) (T : TypeId) (n : Nat) (ds : List Tm) (fp : List Nat) (w : World) : Prop :=
  ∃ C, w.heap[M]? = some (.cells C T (0, 0)) ∧ C.size = n * 9 ∧ ds.length ≤ n ∧ Tm.AtL w ds M 0 fp ∧ M ∉ fp

/-- A block of n types, likewise. -/
def LaidT (M : Nat) (T : TypeId) (n : Nat) (ds : List Ty) (fp : List Nat) (w : World) : Prop :=
  ∃ C, w.heap[M]? = some (.cells C T (0, 0)) ∧ C.size = n * 2 ∧ ds.length ≤ n ∧ Ty.AtL w ds M 0 fp ∧ M ∉ fp

theorem LaidM.zero {M : Nat} {T : TypeId} {n : Nat} {w : World} {C : Array Value} (h : w.heap[M]? = some (.cells C T (0, 0))) (hC : C.size = n * 9) : LaidM M T n [] [] w :=
  ⟨C, h, hC, Nat.zero_le _, by simp only [Tm.AtL], by simp⟩
theorem LaidT.zero {M : Nat} {T : TypeId} {n : Nat} {w : World} {C : Array Value} (h : w.heap[M]? = some (.cells C T (0, 0))) (hC : C.size = n * 2) : LaidT M T n [] [] w :=
  ⟨C, h, hC, Nat.zero_le _, by simp only [Ty.AtL], by simp⟩

/-- In a world with the same blocks both read the same. -/
theorem LaidM.same {M : Nat} {T : TypeId} {n : Nat} {ds : List Tm} {fp : List Nat} {w w1 : World} (h : LaidM M T n ds fp w) (hM : w1.heap[M]? = w.heap[M]?) (hf : ∀ b ∈ fp, w1.heap[b]? = w.heap[b]?) : LaidM M T n ds fp w1 := by
  obtain ⟨C, hB, hC, hn, hl, hm⟩ := h
  exact ⟨C, hM.trans hB, hC, hn, hl.congr (fun o => World.cell?_of_block (w := w) (a := ⟨M, o, none⟩) hM) (fun b hb o => World.cell?_of_block (w := w) (a := ⟨b, o, none⟩) (hf b hb)), hm⟩
theorem LaidT.same {M : Nat} {T : TypeId} {n : Nat} {ds : List Ty} {fp : List Nat} {w w1 : World} (h : LaidT M T n ds fp w) (hM : w1.heap[M]? = w.heap[M]?) (hf : ∀ b ∈ fp, w1.heap[b]? = w.heap[b]?) : LaidT M T n ds fp w1 := by
  obtain ⟨C, hB, hC, hn, hl, hm⟩ := h
  exact ⟨C, hM.trans hB, hC, hn, hl.congr (fun o => World.cell?_of_block (w := w) (a := ⟨M, o, none⟩) hM) (fun b hb o => World.cell?_of_block (w := w) (a := ⟨b, o, none⟩) (hf b hb)), hm⟩

theorem LaidM.lt {M : Nat} {T : TypeId} {n : Nat} {ds : List Tm} {fp : List Nat} {w : World} (h : LaidM M T n ds fp w) : M < w.heap.size ∧ ∀ b ∈ fp, b < w.heap.size := by
  obtain ⟨C, hB, hC, hn, hl, hm⟩ := h
  exact ⟨lt_of_block hB, hl.lt⟩
theorem LaidT.lt {M : Nat} {T : TypeId} {n : Nat} {ds : List Ty} {fp : List Nat} {w : World} (h : LaidT M T n ds fp w) : M < w.heap.size ∧ ∀ b ∈ fp, b < w.heap.size := by
  obtain ⟨C, hB, hC, hn, hl, hm⟩ := h
  exact ⟨lt_of_block hB, hl.lt⟩

/-- Behind a call that writes new blocks, and U's. -/
theorem LaidM.bo {U : Option Nat} {M : Nat} {T : TypeId} {n : Nat} {ds : List Tm} {fp : List Nat} {w w1 : World} (h : LaidM M T n ds fp w) (hb : Bo U w w1) (hM : some M ≠ U) (hf : ∀ b ∈ fp, some b ≠ U) : LaidM M T n ds fp w1 :=
  h.same (World.grownBy.block hb M h.lt.1 hM) (fun b hm => World.grownBy.block hb b (h.lt.2 b hm) (hf b hm))
theorem LaidT.bo {U : Option Nat} {M : Nat} {T : TypeId} {n : Nat} {ds : List Ty} {fp : List Nat} {w w1 : World} (h : LaidT M T n ds fp w) (hb : Bo U w w1) (hM : some M ≠ U) (hf : ∀ b ∈ fp, some b ≠ U) : LaidT M T n ds fp w1 :=
  h.same (World.grownBy.block hb M h.lt.1 hM) (fun b hm => World.grownBy.block hb b (h.lt.2 b hm) (hf b hm))
theorem LaidM.below {M : Nat} {T : TypeId} {n : Nat} {ds : List Tm} {fp : List Nat} {w w1 : World} (h : LaidM M T n ds fp w) (hb : Below w.heap.size w w1) : LaidM M T n ds fp w1 :=
  h.same (hb.block M h.lt.1) (fun b hm => hb.block b (h.lt.2 b hm))
theorem LaidT.below {M : Nat} {T : TypeId} {n : Nat} {ds : List Ty} {fp : List Nat} {w w1 : World} (h : LaidT M T n ds fp w) (hb : Below w.heap.size w w1) : LaidT M T n ds fp w1 :=
  h.same (hb.block M h.lt.1) (fun b hm => hb.block b (h.lt.2 b hm))

/-- Stores into another block. -/
theorem LaidM.putne {M P o : Nat} {vs : List Value} {T : TypeId} {n : Nat} {ds : List Tm} {fp : List Nat} {w : World} (h : LaidM M T n ds fp w) (hM : M ≠ P) (hf : P ∉ fp) : LaidM M T n ds fp (put w P o vs) :=
  h.same (heap_put_ne hM) (fun _ hb => heap_put_ne (fun e => hf (e ▸ hb)))
theorem LaidT.putne {M P o : Nat} {vs : List Value} {T : TypeId} {n : Nat} {ds : List Ty} {fp : List Nat} {w : World} (h : LaidT M T n ds fp w) (hM : M ≠ P) (hf : P ∉ fp) : LaidT M T n ds fp (put w P o vs) :=
  h.same (heap_put_ne hM) (fun _ hb => heap_put_ne (fun e => hf (e ▸ hb)))

theorem put_out {P : Nat} {w : World} {o : Nat} {vs : List Value} {C : Array Value} {T : TypeId} (hB : w.heap[P]? = some (.cells C T (0, 0))) {i : Nat} (h : i < o ∨ o + vs.length ≤ i) : (put w P o vs).cell? ⟨P, i, none⟩ = w.cell? ⟨P, i, none⟩ := by
  rw [cell_of_block (heap_put hB), cell_of_block hB, putA_out _ _ _ _ h]

theorem put_in {P : Nat} {w : World} {o : Nat} {vs : List Value} {C : Array Value} {T : TypeId} (hB : w.heap[P]? = some (.cells C T (0, 0))) {i : Nat} (h : i < vs.length) (hs : o + vs.length ≤ C.size) : (put w P o vs).cell? ⟨P, o + i, none⟩ = vs[i]? := by
  rw [cell_of_block (heap_put hB), putA_in _ _ _ _ h hs]

/-- One more term. -/
theorem LaidM.push {M : Nat} {T : TypeId} {n k : Nat} {ds : List Tm} {t : Tm} {vs : List Value} {f fp : List Nat} {w : World} (h : LaidM M T n ds fp w) (hk : ds.length = k) (hlt : k < n) (ht : t.At w (.agg vs.toArray) f) (hf : M ∉ f) :
    LaidM M T n (ds ++ [t]) (fp ++ f) (put w M (k * 9) vs) := by
  subst hk
  obtain ⟨C, hB, hC, hn, hl, hm⟩ := h
  have h9 : vs.length = 9 := by simpa using Tm.size9 ht
  have keep : ∀ b, b ≠ M → ∀ o, (put w M (ds.length * 9) vs).cell? ⟨b, o, none⟩ = w.cell? ⟨b, o, none⟩ := fun b hb o => World.cell?_of_block (w := w) (a := ⟨b, o, none⟩) (heap_put_ne hb)
  refine ⟨_, heap_put hB, by rw [putA_size]; exact hC, by simp; omega, Tm.AtL.snoc (cs := vs.toArray) (hl.congrR (fun o' _ h' => put_out hB (by omega)) (fun b hb o => keep b (fun e => hm (e ▸ hb)) o)) (fun i hi => ?_) (ht.congr fun b hb o => keep b (fun e => hf (e ▸ hb)) o), by simp [hm, hf]⟩
  rw [Nat.zero_add, put_in hB (by omega) (by omega)]
  simp

/-- One more type. -/
theorem LaidT.push {M : Nat} {T : TypeId} {n k : Nat} {ds : List Ty} {t : Ty} {x y : Value} {f fp : List Nat} {w : World} (h : LaidT M T n ds fp w) (hk : ds.length = k) (hlt : k < n) (ht : t.At w (.agg #[x, y]) f) (hf : M ∉ f) :
    LaidT M T n (ds ++ [t]) (fp ++ f) (put w M (k * 2) [x, y]) := by
  subst hk
  obtain ⟨C, hB, hC, hn, hl, hm⟩ := h
  have keep : ∀ b, b ≠ M → ∀ o, (put w M (ds.length * 2) [x, y]).cell? ⟨b, o, none⟩ = w.cell? ⟨b, o, none⟩ := fun b hb o => World.cell?_of_block (w := w) (a := ⟨b, o, none⟩) (heap_put_ne hb)
  refine ⟨_, heap_put hB, by rw [putA_size]; exact hC, by simp; omega, Ty.AtL.snoc (v0 := x) (v1 := y) (hl.congrR (fun o' _ h' => put_out hB (by omega)) (fun b hb o => keep b (fun e => hm (e ▸ hb)) o)) ?_ ?_ (ht.congr fun b hb o => keep b (fun e => hf (e ▸ hb)) o), by simp [hm, hf]⟩
  · have := put_in (vs := [x, y]) (o := ds.length * 2) (i := 0) hB (by simp) (by simp; omega)
    rw [Nat.zero_add]; simpa using this
  · have := put_in (vs := [x, y]) (o := ds.length * 2) (i := 1) hB (by simp) (by simp; omega)
    rw [Nat.zero_add]; simpa using this

/-- Another term in one's place. -/
theorem Tm.AtL.repl {w w' : World} {M : Nat} {t t' : Tm} {cs' : Array Value} {f : List Nat} (ht : t'.At w' (.agg cs') f) : ∀ {ls : List Tm} {bs : List Tm} {o : Nat} {fp : List Nat}, Tm.AtL w (ls ++ t :: bs) M o fp →
    (∀ i, i < o + ls.length * 9 ∨ o + ls.length * 9 + 9 ≤ i → w'.cell? ⟨M, i, none⟩ = w.cell? ⟨M, i, none⟩) → (∀ i, i < 9 → w'.cell? ⟨M, o + ls.length * 9 + i, none⟩ = cs'[i]?) → (∀ b ∈ fp, ∀ i, w'.cell? ⟨b, i, none⟩ = w.cell? ⟨b, i, none⟩) →
    ∃ fp', Tm.AtL w' (ls ++ t' :: bs) M o fp' ∧ ∀ b ∈ fp', b ∈ fp ∨ b ∈ f
  | [], bs, o, fp, h, hc, hi, hk => by
    simp only [List.nil_append, Tm.AtL] at h ⊢
    obtain ⟨cs, f1, f2, hcs, ha, hl, rfl⟩ := h
    simp only [List.length_nil, Nat.zero_mul, Nat.add_zero] at hc hi
    exact ⟨f ++ f2, ⟨cs', f, f2, hi, ht, hl.congrR (fun o' h1 _ => hc o' (.inr h1)) (fun b hb => hk b (by simp [hb])), rfl⟩, fun b hb => by
      rcases List.mem_append.1 hb with hb | hb
      · exact .inr hb
      · exact .inl (by simp [hb])⟩
  | a :: ls, bs, o, fp, h, hc, hi, hk => by
    simp only [List.cons_append, Tm.AtL] at h ⊢
    obtain ⟨cs, f1, f2, hcs, ha, hl, rfl⟩ := h
    simp only [List.length_cons] at hc hi
    obtain ⟨fp', hl', hsub⟩ := Tm.AtL.repl ht hl (fun i hi' => hc i (by omega)) (fun i hi' => by rw [show o + 9 + ls.length * 9 + i = o + (ls.length + 1) * 9 + i by omega]; exact hi i hi') (fun b hb => hk b (by simp [hb]))
    exact ⟨f1 ++ fp', ⟨cs, f1, fp', fun i hi' => (hc _ (by omega)).trans (hcs i hi'), ha.congr (fun b hb => hk b (by simp [hb])), hl', rfl⟩, fun b hb => by
      rcases List.mem_append.1 hb with hb | hb
      · exact .inl (by simp [hb])
      · rcases hsub b hb with h | h
        · exact .inl (by simp [h])
        · exact .inr h⟩

theorem LaidM.repl {M : Nat} {T : TypeId} {n k : Nat} {ls bs : List Tm} {t t' : Tm} {vs : List Value} {f fp : List Nat} {w : World} (h : LaidM M T n (ls ++ t :: bs) fp w) (hk : ls.length = k) (ht : t'.At w (.agg vs.toArray) f) (hf : M ∉ f) :
    ∃ fp', LaidM M T n (ls ++ t' :: bs) fp' (put w M (k * 9) vs) ∧ ∀ b ∈ fp', b ∈ fp ∨ b ∈ f := by
  subst hk
  obtain ⟨C, hB, hC, hn, hl, hm⟩ := h
  have h9 : vs.length = 9 := by simpa using Tm.size9 ht
  simp only [List.length_append, List.length_cons] at hn
  have keep : ∀ b, b ≠ M → ∀ o, (put w M (ls.length * 9) vs).cell? ⟨b, o, none⟩ = w.cell? ⟨b, o, none⟩ := fun b hb o => World.cell?_of_block (w := w) (a := ⟨b, o, none⟩) (heap_put_ne hb)
  obtain ⟨fp', hl', hsub⟩ := Tm.AtL.repl (w' := put w M (ls.length * 9) vs) (ht.congr fun b hb o => keep b (fun e => hf (e ▸ hb)) o) hl
    (fun i hi => put_out hB (by omega)) (fun i hi => by rw [Nat.zero_add, put_in hB (by omega) (by omega)]; simp) (fun b hb o => keep b (fun e => hm (e ▸ hb)) o)
  exact ⟨fp', ⟨_, heap_put hB, by rw [putA_size]; exact hC, by simp; omega, hl', fun h => by rcases hsub M h with h | h; exact hm h; exact hf h⟩, hsub⟩

/-- The slice. -/
theorem LaidM.sm {M : Nat} {T : TypeId} {n : Nat} {ds : List Tm} {fp : List Nat} {w : World} (h : LaidM M T n ds fp w) (hm : n ≤ maxLen) : ∃ fp', SmAt w ds (.slice (some ⟨M, 0, none⟩) ds.length n) fp' ∧ ∀ b ∈ fp', b = M ∨ b ∈ fp := by
  obtain ⟨C, hB, hC, hn, hl, _⟩ := h
  by_cases h0 : ds.length = 0
  · exact ⟨[], .inl ⟨List.length_eq_zero_iff.1 h0, rfl, _, _, by rw [h0]⟩, fun b hb => by cases hb⟩
  · exact ⟨M :: fp, .inr ⟨M, 0, _, fp, rfl, by omega, hn, by omega, hl, rfl⟩, fun b hb => List.mem_cons.1 hb⟩
theorem LaidT.sl {M : Nat} {T : TypeId} {n : Nat} {ds : List Ty} {fp : List Nat} {w : World} (h : LaidT M T n ds fp w) (hm : n ≤ maxLen) : ∃ fp', SlAt w ds (.slice (some ⟨M, 0, none⟩) ds.length n) fp' ∧ ∀ b ∈ fp', b = M ∨ b ∈ fp := by
  obtain ⟨C, hB, hC, hn, hl, _⟩ := h
  by_cases h0 : ds.length = 0
  · exact ⟨[], .inl ⟨List.length_eq_zero_iff.1 h0, rfl, _, _, by rw [h0]⟩, fun b hb => by cases hb⟩
  · exact ⟨M :: fp, .inr ⟨M, 0, _, fp, rfl, by omega, hn, by omega, hl, rfl⟩, fun b hb => List.mem_cons.1 hb⟩
end Go.Proofs.YtffmpjcjmffdeaaDoor

namespace Go.Proofs.YtffmpjcjmffdeaaDoor
open Go.RowKit

/-- A block that a reading may rest on: not the fitter's own and, where that matters, not frozen. -/
def Gd (Z : Bool) (U : Option Nat) (w : World) (b : Nat) : Prop := (Z = true → ∀ o, w.frozen? ⟨b, o, none⟩ = false) ∧ some b ≠ U

theorem Gd.free (w : World) (b : Nat) : Gd false none w b := ⟨(fun h => by cases h), nofun⟩

theorem Gd.bo {Z : Bool} {U : Option Nat} {w w' : World} {b : Nat} (h : Gd Z U w b) (hlt : b < w.heap.size) (hb : Bo U w w') : Gd Z U w' b :=
  ⟨fun hz o => hb.frozen (h.1 hz o) hlt h.2, h.2⟩

/-- Blocks that were given or made, all of which readings may rest on. -/
def Src (Z : Bool) (U : Option Nat) (A : List Nat) (w w' : World) (f : List Nat) : Prop := ∀ b ∈ f, (b ∈ A ∨ w.heap.size ≤ b) ∧ Gd Z U w' b

theorem Src.nil (Z : Bool) (U : Option Nat) (A : List Nat) (w w' : World) : Src Z U A w w' [] := fun b hb => by cases hb
theorem Src.append {Z : Bool} {U : Option Nat} {A f g : List Nat} {w w' : World} (h : Src Z U A w w' f) (k : Src Z U A w w' g) : Src Z U A w w' (f ++ g) := fun b hb => by
  rcases List.mem_append.1 hb with hb | hb
  · exact h b hb
  · exact k b hb
theorem Src.sub {Z : Bool} {U : Option Nat} {A f g : List Nat} {w w' : World} (h : Src Z U A w w' f) (k : ∀ b ∈ g, b ∈ f) : Src Z U A w w' g := fun b hb => h b (k b hb)
theorem Src.later {Z : Bool} {U : Option Nat} {A f : List Nat} {w w1 w2 : World} (h : Src Z U A w w1 f) (hlt : ∀ b ∈ f, b < w1.heap.size) (hb : Bo U w1 w2) : Src Z U A w w2 f :=
  fun b hm => ⟨(h b hm).1, (h b hm).2.bo (hlt b hm) hb⟩
/-- What a call made of what had such blocks. -/
theorem Src.from {Z : Bool} {U : Option Nat} {A A' f : List Nat} {w w1 w2 : World} (h : Src Z U A' w1 w2 f) (hA : ∀ b ∈ A', b ∈ A ∨ w.heap.size ≤ b) (hs : w.heap.size ≤ w1.heap.size) : Src Z U A w w2 f := fun b hm =>
  ⟨by rcases (h b hm).1 with h | h
      · exact hA b h
      · exact .inr (Nat.le_trans hs h), (h b hm).2⟩
theorem Src.of {Z : Bool} {U : Option Nat} {A A' f : List Nat} {w w1 w2 : World} (h : SrcB A' w1 w2 f) (hA : ∀ b ∈ A', (b ∈ A ∨ w.heap.size ≤ b) ∧ Gd Z U w1 b) (hlt : ∀ b ∈ A', b < w1.heap.size) (hs : w.heap.size ≤ w1.heap.size) (hU : UL U w1.heap.size) (hb : Below w1.heap.size w1 w2) : Src Z U A w w2 f := fun b hm => by
  rcases h b hm with h | h
  · exact ⟨(hA b h).1, (hA b h).2.bo (hlt b h) (Bo.of_below hb)⟩
  · exact ⟨.inr (Nat.le_trans hs h.1), fun _ => h.2, hU.ne h.1⟩
/-- Stores into a block that no reading rests on. -/
theorem Src.put {Z : Bool} {U : Option Nat} {A f : List Nat} {w w1 : World} {P o : Nat} {vs : List Value} (h : Src Z U A w w1 f) (hP : ∀ b ∈ f, b ≠ P) : Src Z U A w (put w1 P o vs) f := fun b hm =>
  ⟨(h b hm).1, fun hz o' => (World.frozen?_of_block (w := w1) (a := ⟨b, o', none⟩) (heap_put_ne (hP b hm))).trans ((h b hm).2.1 hz o'), (h b hm).2.2⟩

theorem Tm.At.putne {w : World} {t : Tm} {v : Value} {fp : List Nat} {M o : Nat} {vs : List Value} (h : t.At w v fp) (hn : ∀ b ∈ fp, b ≠ M) : t.At (put w M o vs) v fp :=
  h.congr fun b hb i => World.cell?_of_block (w := w) (a := ⟨b, i, none⟩) (heap_put_ne (hn b hb))

theorem ScAt.bo {U : Option Nat} {w w' : World} : ∀ {xs : List Bd} {v : Value} {fp : List Nat}, ScAt w xs v fp → Bo U w w' → (∀ b ∈ fp, some b ≠ U) → ScAt w' xs v fp
  | [], _, _, h, _, _ => h
  | _ :: _, _, _, ⟨b, k, n, a, c, o, f, g, hv, hb, hn, ht, hs, hr, hf⟩, h, hU => by
    subst hf
    exact ⟨b, k, n, a, c, o, f, g, hv, h.block' hb (hU b (by simp)), hn, h.ty ht (fun x hx => hU x (by simp [hx])), ScAt.bo hs h (fun x hx => hU x (by simp [hx])), hr, rfl⟩

theorem ScAt.putne {M o : Nat} {vs : List Value} {w : World} : ∀ {xs : List Bd} {v : Value} {fp : List Nat}, ScAt w xs v fp → (∀ b ∈ fp, b ≠ M) → ScAt (put w M o vs) xs v fp
  | [], _, _, h, _ => h
  | _ :: _, _, _, ⟨b, k, n, a, c, i, f, g, hv, hb, hn, ht, hs, hr, hf⟩, hM => by
    subst hf
    exact ⟨b, k, n, a, c, i, f, g, hv, (heap_put_ne (hM b (by simp))).trans hb, hn, ht.putne (fun x hx => hM x (by simp [hx])), ScAt.putne hs (fun x hx => hM x (by simp [hx])), hr, rfl⟩

/-- What a check says: the term and the type if there are, else some that do not matter. -/
def ChOut (Z : Bool) (U : Option Nat) (I : Int → World → Prop) (A : List Nat) (w : World) (o : Option (Tm × Ty) × Int) (e : Ending) (w' : World) : Prop :=
  ∃ e' t' r0 r1 r2 r3 r4 r5 r6 r7 r8 r9 r10 r11 r12 r13 r14 k n a c f1 f2, e = .returned (.tuple #[.agg #[.int .i64 r0, .string r1, .int .i64 r2, .int .i64 r3, .slice r5 r4 r6, .int .i64 r7, .slice r9 r8 r10, .int .i64 r11, .slice r13 r12 r14], .agg #[.int .i64 k, .slice a n c], .bool o.1.isSome]) ∧
    Tm.At w' e' (.agg #[.int .i64 r0, .string r1, .int .i64 r2, .int .i64 r3, .slice r5 r4 r6, .int .i64 r7, .slice r9 r8 r10, .int .i64 r11, .slice r13 r12 r14]) f1 ∧ Ty.At w' t' (.agg #[.int .i64 k, .slice a n c]) f2 ∧
    (∀ p, o.1 = some p → p = (e', t')) ∧ Src Z U A w w' (f1 ++ f2) ∧ Bo U w w' ∧ I o.2 w'

theorem no_tm (w : World) : noTm.At w (.agg #[.int .i64 0, .string ⟨#[]⟩, .int .i64 0, .int .i64 0, .slice none 0 0, .int .i64 0, .slice none 0 0, .int .i64 0, .slice none 0 0]) [] :=
  Tm.at_mk.2 ⟨_, _, _, _, _, [], [], [], rfl, by decide, Ty.at_mk.2 ⟨_, rfl, .inl ⟨rfl, rfl, _, _, rfl⟩⟩, Ty.at_mk.2 ⟨_, rfl, .inl ⟨rfl, rfl, _, _, rfl⟩⟩, rfl, .inl ⟨rfl, rfl, _, _, rfl⟩⟩
theorem no_ty (w : World) : (Ty.mk 0 []).At w (.agg #[.int .i64 0, .slice none 0 0]) [] := Ty.at_mk.2 ⟨_, rfl, .inl ⟨rfl, rfl, _, _, rfl⟩⟩

/-- The check failed. -/
theorem ChOut.no {Z : Bool} {U : Option Nat} {I : Int → World → Prop} {A : List Nat} {w w' : World} {s : Int} (hb : Bo U w w') (hI : I s w') :
    ChOut Z U I A w (none, s) (.returned (.tuple #[.agg #[.int .i64 0, .string ⟨#[]⟩, .int .i64 0, .int .i64 0, .slice none 0 0, .int .i64 0, .slice none 0 0, .int .i64 0, .slice none 0 0], .agg #[.int .i64 0, .slice none 0 0], .bool false])) w' :=
  ⟨noTm, .mk 0 [], _, _, _, _, _, _, _, _, _, _, _, _, _, _, _, _, _, _, _, [], [], rfl, no_tm w', no_ty w', (fun p h => by cases h), Src.nil _ _ _ _ _, hb, hI⟩

/-- What a fitter says. -/
def FitOut (Z : Bool) (U : Option Nat) (I : Int → World → Prop) (A : List Nat) (w : World) (o : Option Tm × Int) (e : Ending) (w' : World) : Prop :=
  ∃ e' r0 r1 r2 r3 r4 r5 r6 r7 r8 r9 r10 r11 r12 r13 r14 f, e = .returned (.tuple #[.agg #[.int .i64 r0, .string r1, .int .i64 r2, .int .i64 r3, .slice r5 r4 r6, .int .i64 r7, .slice r9 r8 r10, .int .i64 r11, .slice r13 r12 r14], .bool o.1.isSome]) ∧
    Tm.At w' e' (.agg #[.int .i64 r0, .string r1, .int .i64 r2, .int .i64 r3, .slice r5 r4 r6, .int .i64 r7, .slice r9 r8 r10, .int .i64 r11, .slice r13 r12 r14]) f ∧ (∀ p, o.1 = some p → p = e') ∧ Src Z U A w w' f ∧ Bo U w w' ∧ I o.2 w'

mutual
/-- Each node has as many operands as its kind wants. -/
def kOk : Tm → Bool
  | .mk k _ _ _ _ _ ts => (kidsM k == (ts.length : Int)) && kOkL ts
def kOkL : List Tm → Bool
  | [] => true
  | t :: ts => kOk t && kOkL ts
end

theorem kOkL_get : ∀ {ts : List Tm}, kOkL ts = true → ∀ (j : Nat) (h : j < ts.length), kOk ts[j] = true
  | t :: ts, h, 0, _ => by simp only [kOkL, Bool.and_eq_true] at h; exact h.1
  | t :: ts, h, j + 1, hj => by simp only [kOkL, Bool.and_eq_true] at h; exact kOkL_get h.2 j (by simpa using hj)

mutual
theorem kOk_of_shpM : ∀ (t : Tm) (d : Nat), shpM d t = true → kOk t = true
  | .mk k nm num ty fr lb ts, d, h => by
    cases d with
    | zero => simp [shpM] at h
    | succ d =>
      simp only [shpM, Bool.and_eq_true, List.all_eq_true] at h
      simp only [kOk, Bool.and_eq_true]
      exact ⟨h.1.1.1, kOkL_of_shpM ts d h.2⟩
theorem kOkL_of_shpM : ∀ (ts : List Tm) (d : Nat), (∀ t ∈ ts, shpM d t = true) → kOkL ts = true
  | [], _, _ => rfl
  | t :: ts, d, h => by
    simp only [kOkL, Bool.and_eq_true]
    exact ⟨kOk_of_shpM t d (h t (by simp)), kOkL_of_shpM ts d fun u hu => h u (by simp [hu])⟩
end

/-- What check hands back as a type is valid. -/
theorem chN_vld {F : FitF} {xs : List Bd} {k : Int} {nm : ByteArray} {num : Int} {ty fr : Ty} {lb : Int} {es : List Tm} {us : List Ty} {s s1 : Int} {p : Tm × Ty} (h : chN F xs k nm num ty fr lb es us s = (some p, s1)) : vld p.2 = true := by
  unfold chN at h
  cases hr : ruleM xs k nm ty fr us with
  | none => rw [hr] at h; simp at h
  | some wr =>
    obtain ⟨ws, r⟩ := wr
    rw [hr] at h
    simp only at h
    by_cases hv : vld r = true
    · rw [if_pos hv] at h
      rcases hf : fitL F es us ws s with ⟨_ | es', s2⟩ <;> rw [hf] at h
      · simp at h
      · simp only [Prod.mk.injEq, Option.some.injEq] at h
        rw [← h.1]
        exact hv
    · rw [if_neg hv] at h; simp at h

theorem chM_vld {F : FitF} {xs : List Bd} {t : Tm} {s s1 : Int} {p : Tm × Ty} (h : chM F xs t s = (some p, s1)) : vld p.2 = true := by
  obtain ⟨k, nm, num, ty, fr, lb, ts, rfl⟩ := t.shape
  simp only [chM] at h
  rcases hl : chL F (inS xs k nm ty) ts s with ⟨_ | ps, s2⟩ <;> rw [hl] at h
  · simp at h
  · exact chN_vld h

theorem chL_vld {F : FitF} {xs : List Bd} : ∀ {ts : List Tm} {s s1 : Int} {ps : List (Tm × Ty)}, chL F xs ts s = (some ps, s1) → ∀ u ∈ ps.map Prod.snd, vld u = true
  | [], s, s1, ps, h => by simp only [chL, Prod.mk.injEq, Option.some.injEq] at h; rw [← h.1]; simp
  | t :: ts, s, s1, ps, h => by
    simp only [chL] at h
    rcases hc : chM F xs t s with ⟨_ | p, s2⟩ <;> rw [hc] at h
    · simp at h
    · simp only at h
      rcases hl : chL F xs ts s2 with ⟨_ | qs, s3⟩ <;> rw [hl] at h
      · simp at h
      · simp only [Prod.mk.injEq, Option.some.injEq] at h
        rw [← h.1]
        intro u hu
        rw [List.map_cons] at hu
        rcases List.mem_cons.1 hu with rfl | hu
        · exact chM_vld hc
        · exact chL_vld hl u hu
end Go.Proofs.YtffmpjcjmffdeaaDoor

namespace Go.Proofs.YtffmpjcjmffdeaaDoor
open Go.RowKit

theorem ruleM_len {xs : List Bd} {k : Int} {nm : ByteArray} {ty fr : Ty} {us ws : List Ty} {r : Ty} (h : ruleM xs k nm ty fr us = some (ws, r)) (hk : kidsM k = (us.length : Int)) : ws.length = us.length := by
  unfold ruleM at h
  by_cases h1 : k = 1
  · subst h1
    have h0 : kidsM 1 = 0 := by decide
    rw [if_pos rfl] at h
    cases hl : look xs nm with
    | none => rw [hl] at h; simp at h
    | some t => rw [hl] at h; simp only [Option.map_some, Option.some.injEq, Prod.mk.injEq] at h; rw [← h.1, List.length_nil]; omega
  rw [if_neg h1] at h
  by_cases h2 : k = 2
  · subst h2
    have h0 : kidsM 2 = 0 := by decide
    rw [if_pos rfl] at h
    simp only [Option.some.injEq, Prod.mk.injEq] at h; rw [← h.1, List.length_nil]; omega
  rw [if_neg h2] at h
  by_cases h3 : k = 3 ∨ k = 4
  · have h0 : kidsM k = 0 := by rcases h3 with rfl | rfl <;> decide
    rw [if_pos h3] at h
    simp only [Option.some.injEq, Prod.mk.injEq] at h; rw [← h.1, List.length_nil]; omega
  rw [if_neg h3] at h
  by_cases h5 : k = 5
  · rw [if_pos h5] at h
    simp only [Option.some.injEq, Prod.mk.injEq] at h; rw [← h.1]
  rw [if_neg h5] at h
  by_cases h6 : k = 6
  · subst h6
    have h0 : kidsM 6 = 2 := by decide
    rw [if_pos rfl] at h
    by_cases hm : mtOk 4 (nth us 0) = true
    · rw [if_pos hm] at h
      simp only [Option.some.injEq, Prod.mk.injEq] at h; rw [← h.1, List.length_cons, List.length_cons, List.length_nil]; omega
    · rw [if_neg hm] at h; simp at h
  rw [if_neg h6] at h
  by_cases h7 : k = 7
  · subst h7
    have h0 : kidsM 7 = 2 := by decide
    rw [if_pos rfl] at h
    simp only [Option.some.injEq, Prod.mk.injEq] at h; rw [← h.1, List.length_cons, List.length_cons, List.length_nil]; omega
  rw [if_neg h7] at h
  by_cases h8 : k = 8
  · subst h8
    have h0 : kidsM 8 = 2 := by decide
    rw [if_pos rfl] at h
    simp only [Option.some.injEq, Prod.mk.injEq] at h; rw [← h.1, List.length_cons, List.length_cons, List.length_nil]; omega
  rw [if_neg h8] at h
  by_cases h9 : k = 9
  · subst h9
    have h0 : kidsM 9 = 3 := by decide
    rw [if_pos rfl] at h
    by_cases hm : consOf (nth us 1) (nth us 2) = true
    · rw [if_pos hm] at h
      simp only [Option.some.injEq, Prod.mk.injEq] at h; rw [← h.1, List.length_cons, List.length_cons, List.length_cons, List.length_nil]; omega
    · rw [if_neg hm] at h; simp at h
  rw [if_neg h9] at h
  by_cases h10 : k = 10
  · rw [if_pos h10] at h
    simp only [Option.some.injEq, Prod.mk.injEq] at h; rw [← h.1]
  rw [if_neg h10] at h
  by_cases h11 : k = 11
  · subst h11
    have h0 : kidsM 11 = 1 := by decide
    rw [if_pos rfl] at h
    by_cases hm : mtOk 5 (nth us 0) = true
    · rw [if_pos hm] at h
      simp only [Option.some.injEq, Prod.mk.injEq] at h; rw [← h.1, List.length_cons, List.length_nil]; omega
    · rw [if_neg hm] at h; simp at h
  rw [if_neg h11] at h
  by_cases h12 : k = 12
  · subst h12
    have h0 : kidsM 12 = 1 := by decide
    rw [if_pos rfl] at h
    by_cases hm : mtOk 5 (nth us 0) = true
    · rw [if_pos hm] at h
      simp only [Option.some.injEq, Prod.mk.injEq] at h; rw [← h.1, List.length_cons, List.length_nil]; omega
    · rw [if_neg hm] at h; simp at h
  rw [if_neg h12] at h
  by_cases h13 : k = 13
  · subst h13
    have h0 : kidsM 13 = 1 := by decide
    rw [if_pos rfl] at h
    simp only [Option.some.injEq, Prod.mk.injEq] at h; rw [← h.1, List.length_cons, List.length_nil]; omega
  rw [if_neg h13] at h
  by_cases h14 : k = 14
  · subst h14
    have h0 : kidsM 14 = 1 := by decide
    rw [if_pos rfl] at h
    simp only [Option.some.injEq, Prod.mk.injEq] at h; rw [← h.1, List.length_cons, List.length_nil]; omega
  rw [if_neg h14] at h
  cases h

theorem kids_rng {k : Int} {n : Nat} (h : kidsM k = (n : Int)) : 1 ≤ k ∧ k ≤ 14 ∧ n ≤ 3 := by
  unfold kidsM at h
  repeat' split at h
  all_goals omega

theorem fitL_snoc (F : FitF) : ∀ (es : List Tm) (us ws : List Ty) (e : Tm) (u v : Ty) (s : Int), es.length = us.length → es.length = ws.length → fitL F (es ++ [e]) (us ++ [u]) (ws ++ [v]) s = match fitL F es us ws s with
    | (none, s1) => (none, s1)
    | (some es', s1) => match F s1 e u v with
      | (none, s2) => (none, s2)
      | (some e', s2) => (some (es' ++ [e']), s2)
  | [], [], [], e, u, v, s, _, _ => by
    simp only [List.nil_append, fitL]
    rcases F s e u v with ⟨_ | p, s1⟩ <;> rfl
  | a :: es, b :: us, c :: ws, e, u, v, s, h, h' => by
    simp only [List.cons_append, fitL]
    rcases F s a b c with ⟨_ | p, s1⟩
    · rfl
    · simp only [fitL_snoc F es us ws e u v s1 (by simpa using h) (by simpa using h')]
      rcases fitL F es us ws s1 with ⟨_ | ps, s2⟩
      · rfl
      · simp only
        rcases F s2 e u v with ⟨_ | q, s3⟩ <;> simp
  | [], _ :: _, _, _, _, _, _, h, _ => by simp at h
  | [], [], _ :: _, _, _, _, _, _, h => by simp at h
  | _ :: _, [], _, _, _, _, _, h, _ => by simp at h
  | _ :: _, _ :: _, [], _, _, _, _, _, h => by simp at h

theorem fitL_stop {F : FitF} : ∀ {es es2 : List Tm} {us us2 ws ws2 : List Ty} {s s1 : Int}, es.length = us.length → es.length = ws.length → fitL F es us ws s = (none, s1) → fitL F (es ++ es2) (us ++ us2) (ws ++ ws2) s = (none, s1)
  | [], _, [], _, [], _, s, s1, _, _, h => by simp [fitL] at h
  | a :: es, es2, b :: us, us2, c :: ws, ws2, s, s1, h, h', hf => by
    simp only [List.cons_append, fitL] at hf ⊢
    rcases hc : F s a b c with ⟨_ | p, s2⟩ <;> rw [hc] at hf
    · exact hf
    · simp only at hf ⊢
      rcases hl : fitL F es us ws s2 with ⟨_ | qs, s3⟩ <;> rw [hl] at hf
      · simp only at hf
        rw [fitL_stop (by simpa using h) (by simpa using h') hl]
        exact hf
      · simp at hf
  | [], _, _ :: _, _, _, _, _, _, h, _, _ => by simp at h
  | [], _, [], _, _ :: _, _, _, _, _, h, _ => by simp at h
  | _ :: _, _, [], _, _, _, _, _, h, _, _ => by simp at h
  | _ :: _, _, _ :: _, _, [], _, _, _, _, h, _ => by simp at h

theorem fitL_len {F : FitF} : ∀ {es : List Tm} {us ws : List Ty} {s s1 : Int} {ps : List Tm}, es.length = us.length → es.length = ws.length → fitL F es us ws s = (some ps, s1) → ps.length = es.length
  | [], [], [], s, s1, ps, _, _, h => by simp only [fitL, Prod.mk.injEq, Option.some.injEq] at h; rw [← h.1]
  | a :: es, b :: us, c :: ws, s, s1, ps, h, h', hf => by
    simp only [fitL] at hf
    rcases hc : F s a b c with ⟨_ | p, s2⟩ <;> rw [hc] at hf
    · simp at hf
    · simp only at hf
      rcases hl : fitL F es us ws s2 with ⟨_ | qs, s3⟩ <;> rw [hl] at hf
      · simp at hf
      · simp only [Prod.mk.injEq, Option.some.injEq] at hf
        rw [← hf.1, List.length_cons, List.length_cons, fitL_len (by simpa using h) (by simpa using h') hl]
  | [], _ :: _, _, _, _, _, h, _, _ => by simp at h
  | [], [], _ :: _, _, _, _, _, h, _ => by simp at h
  | _ :: _, [], _, _, _, _, h, _, _ => by simp at h
  | _ :: _, _ :: _, [], _, _, _, _, h, _ => by simp at h

theorem fitL_take {F : FitF} {es : List Tm} {us ws : List Ty} {j : Nat} (h : j < es.length) (hu : j < us.length) (hw : j < ws.length) (s : Int) : fitL F (es.take (j + 1)) (us.take (j + 1)) (ws.take (j + 1)) s = match fitL F (es.take j) (us.take j) (ws.take j) s with
    | (none, s1) => (none, s1)
    | (some es', s1) => match F s1 es[j] us[j] ws[j] with
      | (none, s2) => (none, s2)
      | (some e', s2) => (some (es' ++ [e']), s2) := by
  rw [List.take_succ_eq_append_getElem h, List.take_succ_eq_append_getElem hu, List.take_succ_eq_append_getElem hw]
  exact fitL_snoc F _ _ _ _ _ _ s (by simp; omega) (by simp; omega)

theorem fitL_none {F : FitF} {es : List Tm} {us ws : List Ty} {j : Nat} {s s1 : Int} (hu : us.length = es.length) (hw : ws.length = es.length) (h : fitL F (es.take j) (us.take j) (ws.take j) s = (none, s1)) : fitL F es us ws s = (none, s1) := by
  have := fitL_stop (es2 := es.drop j) (us2 := us.drop j) (ws2 := ws.drop j) (by simp [hu]) (by simp [hw]) h
  rwa [List.take_append_drop, List.take_append_drop, List.take_append_drop] at this

/-- What the fitter's state may stand: writing of other blocks. -/
def KeepI (U : Option Nat) (I : Int → World → Prop) : Prop := ∀ s w w', I s w → (∀ b, U = some b → w'.heap[b]? = w.heap[b]?) → I s w'

theorem KeepI.below {U : Option Nat} {I : Int → World → Prop} (h : KeepI U I) {s : Int} {B : Nat} {w w' : World} (hI : I s w) (hU : UL U B) (hb : Below B w w') : I s w' := h s w w' hI fun b e => hb.block b (hU b e)
theorem KeepI.put {U : Option Nat} {I : Int → World → Prop} (h : KeepI U I) {s : Int} {B P o : Nat} {vs : List Value} {w : World} (hI : I s w) (hU : UL U B) (hP : B ≤ P) : I s (put w P o vs) := h s w _ hI fun b e => heap_put_ne (by have := hU b e; omega)
end Go.Proofs.YtffmpjcjmffdeaaDoor

namespace Go.Proofs.YtffmpjcjmffdeaaDoor
open Go.RowKit

/-- A block beside the boxes of a check that began with S blocks. -/
def Nb (S M1 M2 b : Nat) : Prop := b < S ∨ (S + 2 < b ∧ b ≠ M1 ∧ b ≠ M2)

structure CkI (Z : Bool) (U : Option Nat) (I : Int → World → Prop) (A : List Nat) (w : World) (M1 M2 N2 n : Nat) (bx : Array Value) (es : List Tm) (us : List Ty) (s1 : Int) (wr : World) : Prop where
  box : wr.heap[w.heap.size]? = some (.cells bx 35 (0, 0))
  zb : wr.heap[w.heap.size + 1]? = some (Obj.cells #[.int .i64 0, .string ⟨#[]⟩, .int .i64 0, .int .i64 0, .slice none 0 0, .int .i64 0, .slice none 0 0, .int .i64 0, .slice none 0 0] 35)
  tz : wr.heap[w.heap.size + 1 + 1]? = some (Obj.cells #[.int .i64 0, .slice none 0 0] 32)
  lm : ∃ fm ft, LaidM M1 35 n es fm wr ∧ LaidT M2 32 n us ft wr ∧ Src Z U A w wr (fm ++ ft) ∧ ∀ b ∈ fm ++ ft, Nb w.heap.size M1 N2 b
  bo : Bo U w wr
  st : I s1 wr
  ul : UL U w.heap.size
  m1 : w.heap.size + 2 < M1
  m2 : w.heap.size + 2 < M2
  ne : M1 ≠ M2

theorem CkI.move {Z : Bool} {U : Option Nat} {I : Int → World → Prop} {A : List Nat} {w wr w2 : World} {M1 M2 N2 n : Nat} {bx : Array Value} {es : List Tm} {us : List Ty} {s1 s2 : Int} (h : CkI Z U I A w M1 M2 N2 n bx es us s1 wr) (hb : Bo U wr w2) (hI : I s2 w2) :
    CkI Z U I A w M1 M2 N2 n bx es us s2 w2 := by
  obtain ⟨fm, ft, lm, lt, sr, nb⟩ := h.lm
  have hlt : ∀ b ∈ fm ++ ft, b < wr.heap.size := fun b hm => by
    rcases List.mem_append.1 hm with hm | hm
    · exact lm.lt.2 b hm
    · exact lt.lt.2 b hm
  have g : ∀ b ∈ fm ++ ft, some b ≠ U := fun b hm => (sr b hm).2.2
  have m1 := h.m1
  have m2 := h.m2
  exact ⟨hb.block' h.box (h.ul.ne (Nat.le_refl _)), hb.block' h.zb (h.ul.ne (by omega)), hb.block' h.tz (h.ul.ne (by omega)),
    ⟨fm, ft, lm.bo hb (h.ul.ne (by omega)) (fun b hm => g b (by simp [hm])), lt.bo hb (h.ul.ne (by omega)) (fun b hm => g b (by simp [hm])), sr.later hlt hb, nb⟩, h.bo.trans hb, hI, h.ul, m1, m2, h.ne⟩

/-- One more operand: nine stores and two. -/
theorem CkI.push {Z : Bool} {U : Option Nat} {I : Int → World → Prop} {A : List Nat} {w w2 : World} {M1 M2 n j : Nat} {bx : Array Value} {es : List Tm} {us : List Ty} {s1 : Int} {e : Tm} {t : Ty} {vs : List Value} {x y : Value} {f1 f2 : List Nat}
    (h : CkI Z U I A w M1 M2 M2 n bx es us s1 w2) (hK : KeepI U I) (he : es.length = j) (hu : us.length = j) (hj : j < n) (h1 : e.At w2 (.agg vs.toArray) f1) (h2 : t.At w2 (.agg #[x, y]) f2) (hs : Src Z U A w w2 (f1 ++ f2)) (hn : ∀ b ∈ f1 ++ f2, Nb w.heap.size M1 M2 b) :
    CkI Z U I A w M1 M2 M2 n bx (es ++ [e]) (us ++ [t]) s1 (put (put w2 M1 (j * 9) vs) M2 (j * 2) [x, y]) := by
  obtain ⟨fm, ft, lm, lt, sr, nb⟩ := h.lm
  have m1 := h.m1
  have m2 := h.m2
  have ne := h.ne
  have nbm : ∀ b, Nb w.heap.size M1 M2 b → b ≠ M1 ∧ b ≠ M2 := fun b hb => by
    rcases hb with hb | hb <;> omega
  have hall : ∀ b ∈ (fm ++ f1) ++ (ft ++ f2), Nb w.heap.size M1 M2 b ∧ ((b ∈ A ∨ w.heap.size ≤ b) ∧ Gd Z U w2 b) := fun b hm => by
    have : b ∈ fm ++ ft ∨ b ∈ f1 ++ f2 := by
      simp only [List.mem_append] at hm ⊢
      rcases hm with (h | h) | (h | h) <;> simp [h]
    rcases this with hm | hm
    · exact ⟨nb b hm, sr b hm⟩
    · exact ⟨hn b hm, hs b hm⟩
  have hpm := lm.push he hj h1 (fun hm => (nbm _ (hn M1 (by simp [hm]))).1 rfl)
  have hpt := (lt.putne (vs := vs) (o := j * 9) (P := M1) (Ne.symm ne) (fun hm => (nbm _ (nb M1 (by simp [hm]))).1 rfl)).push hu hj ((h2.putne (M := M1) (o := j * 9) (vs := vs) (fun b hb => (nbm b (hn b (by simp [hb]))).1))) (fun hm => (nbm _ (hn M2 (by simp [hm]))).2 rfl)
  have hpm2 := hpm.putne (P := M2) (o := j * 2) (vs := [x, y]) ne (fun hm => by
    rcases List.mem_append.1 hm with hm | hm
    · exact (nbm _ (nb M2 (by simp [hm]))).2 rfl
    · exact (nbm _ (hn M2 (by simp [hm]))).2 rfl)
  refine ⟨(heap_put_ne (by omega)).trans ((heap_put_ne (by omega)).trans h.box), (heap_put_ne (by omega)).trans ((heap_put_ne (by omega)).trans h.zb), (heap_put_ne (by omega)).trans ((heap_put_ne (by omega)).trans h.tz),
    ⟨_, _, hpm2, hpt, ?_, fun b hm => (hall b hm).1⟩, (h.bo.put (by omega)).put (by omega), hK.put (hK.put h.st h.ul (by omega)) h.ul (by omega), h.ul, m1, m2, ne⟩
  have hsrc : Src Z U A w w2 ((fm ++ f1) ++ (ft ++ f2)) := fun b hm => (hall b hm).2
  exact (hsrc.put (fun b hm => (nbm b (hall b hm).1).1)).put (fun b hm => (nbm b (hall b hm).1).2)

/-- Another term in an operand's place. -/
theorem CkI.repl {Z : Bool} {U : Option Nat} {I : Int → World → Prop} {A : List Nat} {w w2 : World} {M1 M2 N2 n j : Nat} {bx : Array Value} {ls bs : List Tm} {us : List Ty} {s1 : Int} {e e' : Tm} {vs : List Value} {f1 : List Nat}
    (h : CkI Z U I A w M1 M2 N2 n bx (ls ++ e :: bs) us s1 w2) (hK : KeepI U I) (he : ls.length = j) (h1 : e'.At w2 (.agg vs.toArray) f1) (hs : Src Z U A w w2 f1) (hn : ∀ b ∈ f1, Nb w.heap.size M1 N2 b) :
    CkI Z U I A w M1 M2 N2 n bx (ls ++ e' :: bs) us s1 (put w2 M1 (j * 9) vs) := by
  obtain ⟨fm, ft, lm, lt, sr, nb⟩ := h.lm
  have m1 := h.m1
  have m2 := h.m2
  have ne := h.ne
  have nbm : ∀ b, Nb w.heap.size M1 N2 b → b ≠ M1 ∧ True := fun b hb => by
    rcases hb with hb | hb
    · exact ⟨by omega, trivial⟩
    · exact ⟨hb.2.1, trivial⟩
  obtain ⟨fm', hpm, hsub⟩ := lm.repl he h1 (fun hm => (nbm _ (hn M1 hm)).1 rfl)
  have hpt := lt.putne (vs := vs) (o := j * 9) (P := M1) (Ne.symm ne) (fun hm => (nbm _ (nb M1 (by simp [hm]))).1 rfl)
  have hall : ∀ b ∈ fm' ++ ft, Nb w.heap.size M1 N2 b ∧ ((b ∈ A ∨ w.heap.size ≤ b) ∧ Gd Z U w2 b) := fun b hm => by
    have : b ∈ fm ++ ft ∨ b ∈ f1 := by
      rcases List.mem_append.1 hm with hm | hm
      · rcases hsub b hm with h | h
        · exact .inl (by simp [h])
        · exact .inr h
      · exact .inl (by simp [hm])
    rcases this with hm | hm
    · exact ⟨nb b hm, sr b hm⟩
    · exact ⟨hn b hm, hs b hm⟩
  refine ⟨(heap_put_ne (by omega)).trans h.box, (heap_put_ne (by omega)).trans h.zb, (heap_put_ne (by omega)).trans h.tz,
    ⟨_, _, hpm, hpt, ?_, fun b hm => (hall b hm).1⟩, h.bo.put (by omega), hK.put h.st h.ul (by omega), h.ul, m1, m2, ne⟩
  have hsrc : Src Z U A w w2 (fm' ++ ft) := fun b hm => (hall b hm).2
  exact hsrc.put (fun b hm => (nbm b (hall b hm).1).1)

theorem CkI.start {Z : Bool} {U : Option Nat} {I : Int → World → Prop} {A : List Nat} {w wr : World} {M1 M2 n : Nat} {bx C1 C2 : Array Value} {s1 : Int} (hbx : wr.heap[w.heap.size]? = some (.cells bx 35 (0, 0))) (hzb : wr.heap[w.heap.size + 1]? = some (Obj.cells #[.int .i64 0, .string ⟨#[]⟩, .int .i64 0, .int .i64 0, .slice none 0 0, .int .i64 0, .slice none 0 0, .int .i64 0, .slice none 0 0] 35)) (htz : wr.heap[w.heap.size + 1 + 1]? = some (Obj.cells #[.int .i64 0, .slice none 0 0] 32))
    (h1 : wr.heap[M1]? = some (.cells C1 35 (0, 0))) (hC1 : C1.size = n * 9) (h2 : wr.heap[M2]? = some (.cells C2 32 (0, 0))) (hC2 : C2.size = n * 2) (hb : Bo U w wr) (hI : I s1 wr) (hU : UL U w.heap.size) (m1 : w.heap.size + 2 < M1) (m2 : w.heap.size + 2 < M2) (ne : M1 ≠ M2) :
    CkI Z U I A w M1 M2 M2 n bx [] [] s1 wr :=
  ⟨hbx, hzb, htz, ⟨[], [], LaidM.zero h1 hC1, LaidT.zero h2 hC2, Src.nil _ _ _ _ _, fun b hb => by cases hb⟩, hb, hI, hU, m1, m2, ne⟩

/-- From now on only the terms' block is written. -/
theorem CkI.weaken {Z : Bool} {U : Option Nat} {I : Int → World → Prop} {A : List Nat} {w wr : World} {M1 M2 n : Nat} {bx : Array Value} {es : List Tm} {us : List Ty} {s1 : Int} (h : CkI Z U I A w M1 M2 M2 n bx es us s1 wr) : CkI Z U I A w M1 M2 M1 n bx es us s1 wr := by
  obtain ⟨fm, ft, lm, lt, sr, nb⟩ := h.lm
  exact ⟨h.box, h.zb, h.tz, ⟨fm, ft, lm, lt, sr, fun b hb => (nb b hb).imp_right fun h => ⟨h.1, h.2.1, h.2.1⟩⟩, h.bo, h.st, h.ul, h.m1, h.m2, h.ne⟩

theorem LaidM.get {M : Nat} {T : TypeId} {n : Nat} {ds : List Tm} {fp : List Nat} {w : World} (h : LaidM M T n ds fp w) (i : Nat) (hi : i < ds.length) : ∃ k nm num k1 n1 a1 c1 k2 n2 a2 c2 lb n3 a3 c3 f,
    w.cell? ⟨M, i * 9, none⟩ = some (.int .i64 k) ∧ w.cell? ⟨M, i * 9 + 1, none⟩ = some (.string nm) ∧ w.cell? ⟨M, i * 9 + 2, none⟩ = some (.int .i64 num) ∧ w.cell? ⟨M, i * 9 + 3, none⟩ = some (.int .i64 k1) ∧ w.cell? ⟨M, i * 9 + 4, none⟩ = some (.slice a1 n1 c1) ∧
    w.cell? ⟨M, i * 9 + 5, none⟩ = some (.int .i64 k2) ∧ w.cell? ⟨M, i * 9 + 6, none⟩ = some (.slice a2 n2 c2) ∧ w.cell? ⟨M, i * 9 + 7, none⟩ = some (.int .i64 lb) ∧ w.cell? ⟨M, i * 9 + 8, none⟩ = some (.slice a3 n3 c3) ∧
    Tm.At w ds[i] (.agg #[.int .i64 k, .string nm, .int .i64 num, .int .i64 k1, .slice a1 n1 c1, .int .i64 k2, .slice a2 n2 c2, .int .i64 lb, .slice a3 n3 c3]) f ∧ ∀ x ∈ f, x ∈ fp := by
  obtain ⟨C, hC, hs, hn, hl, hm⟩ := h
  obtain ⟨cs, f, hcs, hat, hf⟩ := Tm.atL_get hl i hi
  obtain ⟨k, nm, num, k1, n1, a1, c1, k2, n2, a2, c2, lb, n3, a3, c3, e⟩ := hat.agg
  cases e
  simp only [Nat.zero_add] at hcs
  exact ⟨k, nm, num, k1, n1, a1, c1, k2, n2, a2, c2, lb, n3, a3, c3, f, hcs 0 (by omega), hcs 1 (by omega), hcs 2 (by omega), hcs 3 (by omega), hcs 4 (by omega), hcs 5 (by omega), hcs 6 (by omega), hcs 7 (by omega), hcs 8 (by omega), hat, hf⟩

theorem LaidT.get {M : Nat} {T : TypeId} {n : Nat} {ds : List Ty} {fp : List Nat} {w : World} (h : LaidT M T n ds fp w) (i : Nat) (hi : i < ds.length) : ∃ k m a c f,
    w.cell? ⟨M, i * 2, none⟩ = some (.int .i64 k) ∧ w.cell? ⟨M, i * 2 + 1, none⟩ = some (.slice a m c) ∧ Ty.At w ds[i] (.agg #[.int .i64 k, .slice a m c]) f ∧ ∀ x ∈ f, x ∈ fp := by
  obtain ⟨C, hC, hs, hn, hl, hm⟩ := h
  obtain ⟨v0, v1, f, h0, h1, hat, hf⟩ := Ty.atL_get hl i hi
  obtain ⟨k, m, a, c, e⟩ := hat.agg
  simp only [Value.agg.injEq, Array.mk.injEq, List.cons.injEq, and_true] at e
  obtain ⟨rfl, rfl⟩ := e
  simp only [Nat.zero_add] at h0 h1
  exact ⟨k, m, a, c, f, h0, h1, hat, hf⟩

/-- The blocks' cells, as a walk asks for them. -/
theorem CkI.cells {Z : Bool} {U : Option Nat} {I : Int → World → Prop} {A : List Nat} {w wr : World} {M1 M2 N2 n j : Nat} {bx : Array Value} {es : List Tm} {us : List Ty} {s1 : Int} (h : CkI Z U I A w M1 M2 N2 n bx es us s1 wr) (hj : j < n) :
    (∃ y0 y1 y2 y3 y4 y5 y6 y7 y8, wr.cell? ⟨M1, j * 9, none⟩ = some y0 ∧ wr.cell? ⟨M1, j * 9 + 1, none⟩ = some y1 ∧ wr.cell? ⟨M1, j * 9 + 2, none⟩ = some y2 ∧ wr.cell? ⟨M1, j * 9 + 3, none⟩ = some y3 ∧ wr.cell? ⟨M1, j * 9 + 4, none⟩ = some y4 ∧
      wr.cell? ⟨M1, j * 9 + 5, none⟩ = some y5 ∧ wr.cell? ⟨M1, j * 9 + 6, none⟩ = some y6 ∧ wr.cell? ⟨M1, j * 9 + 7, none⟩ = some y7 ∧ wr.cell? ⟨M1, j * 9 + 8, none⟩ = some y8) ∧
    (∃ z0 z1, wr.cell? ⟨M2, j * 2, none⟩ = some z0 ∧ wr.cell? ⟨M2, j * 2 + 1, none⟩ = some z1) ∧ (∀ o, wr.frozen? ⟨M1, o, none⟩ = false) ∧ (∀ o, wr.frozen? ⟨M2, o, none⟩ = false) ∧ M1 < wr.heap.size ∧ M2 < wr.heap.size := by
  obtain ⟨fm, ft, ⟨C, hC, hs, -⟩, ⟨D, hD, hds, -⟩, -⟩ := h.lm
  refine ⟨⟨C[j * 9]'(by omega), C[j * 9 + 1]'(by omega), C[j * 9 + 2]'(by omega), C[j * 9 + 3]'(by omega), C[j * 9 + 4]'(by omega), C[j * 9 + 5]'(by omega), C[j * 9 + 6]'(by omega), C[j * 9 + 7]'(by omega), C[j * 9 + 8]'(by omega), ?_⟩, ⟨D[j * 2]'(by omega), D[j * 2 + 1]'(by omega), ?_⟩, fun o => frozen_of_block hC, fun o => frozen_of_block hD, lt_of_block hC, lt_of_block hD⟩
  · simp only [cell_of_block hC]
    exact ⟨Array.getElem?_eq_getElem _, Array.getElem?_eq_getElem _, Array.getElem?_eq_getElem _, Array.getElem?_eq_getElem _, Array.getElem?_eq_getElem _, Array.getElem?_eq_getElem _, Array.getElem?_eq_getElem _, Array.getElem?_eq_getElem _, Array.getElem?_eq_getElem _⟩
  · simp only [cell_of_block hD]
    exact ⟨Array.getElem?_eq_getElem _, Array.getElem?_eq_getElem _⟩
end Go.Proofs.YtffmpjcjmffdeaaDoor

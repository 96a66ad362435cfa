/- Coercions as trees: how a Coercion lies in memory, and what keeps it there. -/
import Derived.Test.YtolhfcpmhhhjpaaSPkA
namespace Go.Proofs.Ytolhfcpmhhhjpaa
open Go.RowKit

inductive Co where
  | mk (k g l : Int) (ts : List Co)

theorem Co.ind {P : Co → Prop} (h : ∀ k g l ts, (∀ t ∈ ts, P t) → P (.mk k g l ts)) : ∀ t, P t
  | .mk k g l ts => h k g l ts (fun t _ => Co.ind h t)

mutual
/-- In the world w the value v reads as the coercion; fp: the blocks of its slices. -/
def Co.At (w : World) : Co → Value → List Nat → Prop
  | .mk k g l ts, v, fp => ∃ s, v = .agg #[.int .i64 k, .int .i64 g, .int .i64 l, s] ∧
     ((ts = [] ∧ fp = [] ∧ ∃ a cap, s = .slice a 0 cap) ∨
      ∃ b o cap f, s = .slice (some ⟨b, o, none⟩) ts.length cap ∧ 0 < ts.length ∧ ts.length ≤ cap ∧ ts.length ≤ maxLen ∧ Co.AtL w ts b o f ∧ fp = b :: f)
def Co.AtL (w : World) : List Co → Nat → Nat → List Nat → Prop
  | [], _, _, fp => fp = []
  | t :: ts, b, o, fp => ∃ v0 v1 v2 v3 f1 f2, w.cell? ⟨b, o, none⟩ = some v0 ∧ w.cell? ⟨b, o + 1, none⟩ = some v1 ∧ w.cell? ⟨b, o + 2, none⟩ = some v2 ∧ w.cell? ⟨b, o + 3, none⟩ = some v3 ∧ Co.At w t (.agg #[v0, v1, v2, v3]) f1 ∧ Co.AtL w ts b (o + 4) f2 ∧ fp = f1 ++ f2
end

/-- A slice value that reads as a list of coercions. -/
def CSl (w : World) (ts : List Co) (s : Value) (fp : List Nat) : Prop :=
  (ts = [] ∧ fp = [] ∧ ∃ a cap, s = .slice a 0 cap) ∨
  ∃ b o cap f, s = .slice (some ⟨b, o, none⟩) ts.length cap ∧ 0 < ts.length ∧ ts.length ≤ cap ∧ ts.length ≤ maxLen ∧ Co.AtL w ts b o f ∧ fp = b :: f

theorem Co.at_mk {w : World} {k g l : Int} {ts : List Co} {v : Value} {fp : List Nat} : Co.At w (.mk k g l ts) v fp ↔ ∃ s, v = .agg #[.int .i64 k, .int .i64 g, .int .i64 l, s] ∧ CSl w ts s fp := by
  simp only [Co.At, CSl]

theorem Co.shape (t : Co) : ∃ k g l ts, t = .mk k g l ts := by cases t; exact ⟨_, _, _, _, rfl⟩

mutual
theorem Co.At.congr {w w' : World} : ∀ {t : Co} {v : Value} {fp : List Nat}, Co.At w t v fp → (∀ b ∈ fp, ∀ o, w'.cell? ⟨b, o, none⟩ = w.cell? ⟨b, o, none⟩) → Co.At w' t v fp
  | .mk k g l ts, v, fp, h, hk => by
    obtain ⟨s, hv, h⟩ := h
    refine ⟨s, hv, ?_⟩
    rcases h with h | ⟨b, o, cap, f, hs, hp, hc, hm, hl, rfl⟩
    · exact .inl h
    · exact .inr ⟨b, o, cap, f, hs, hp, hc, hm, Co.AtL.congr hl (hk b (by simp)) (fun b' hb' => hk b' (by simp [hb'])), rfl⟩
theorem Co.AtL.congr {w w' : World} : ∀ {ts : List Co} {b o : Nat} {fp : List Nat}, Co.AtL w ts b o fp → (∀ o, w'.cell? ⟨b, o, none⟩ = w.cell? ⟨b, o, none⟩) → (∀ b ∈ fp, ∀ o, w'.cell? ⟨b, o, none⟩ = w.cell? ⟨b, o, none⟩) → Co.AtL w' ts b o fp
  | [], _, _, _, h, _, _ => h
  | t :: ts, b, o, fp, h, hb, hk => by
    obtain ⟨v0, v1, v2, v3, f1, f2, c0, c1, c2, c3, ha, hl, rfl⟩ := h
    exact ⟨v0, v1, v2, v3, f1, f2, (hb _).trans c0, (hb _).trans c1, (hb _).trans c2, (hb _).trans c3, Co.At.congr ha (fun x hx => hk x (List.mem_append_left _ hx)), Co.AtL.congr hl hb (fun x hx => hk x (List.mem_append_right _ hx)), rfl⟩
end

mutual
theorem Co.At.lt {w : World} : ∀ {t : Co} {v : Value} {fp : List Nat}, Co.At w t v fp → ∀ b ∈ fp, b < w.heap.size
  | .mk k g l ts, v, fp, h => by
    obtain ⟨s, hv, h⟩ := h
    rcases h with ⟨_, rfl, _⟩ | ⟨b, o, cap, f, hs, hp, hc, hm, hl, rfl⟩
    · simp
    · intro x hx
      rcases List.mem_cons.1 hx with rfl | hx
      · cases ts with
        | nil => simp at hp
        | cons t ts =>
          obtain ⟨v0, v1, v2, v3, f1, f2, c0, _⟩ := hl
          exact World.block_lt_of_cell? _ _ c0
      · exact Co.AtL.lt hl x hx
theorem Co.AtL.lt {w : World} : ∀ {ts : List Co} {b o : Nat} {fp : List Nat}, Co.AtL w ts b o fp → ∀ b ∈ fp, b < w.heap.size
  | [], _, _, _, h => by cases h; simp
  | t :: ts, b, o, fp, h => by
    obtain ⟨v0, v1, v2, v3, f1, f2, c0, c1, c2, c3, ha, hl, rfl⟩ := h
    intro x hx
    rcases List.mem_append.1 hx with hx | hx
    · exact Co.At.lt ha x hx
    · exact Co.AtL.lt hl x hx
end

theorem Co.At.below {w w' : World} {t : Co} {v : Value} {fp : List Nat} (h : Co.At w t v fp) (hb : Below w.heap.size w w') : Co.At w' t v fp :=
  h.congr fun b hm o => hb.cell (p := ⟨b, o, none⟩) (h.lt b hm)

theorem CSl.congr {w w' : World} {ts : List Co} {s : Value} {fp : List Nat} (h : CSl w ts s fp) (hk : ∀ b ∈ fp, ∀ o, w'.cell? ⟨b, o, none⟩ = w.cell? ⟨b, o, none⟩) : CSl w' ts s fp := by
  rcases h with h | ⟨b, o, cap, f, hs, hp, hc, hm, hl, rfl⟩
  · exact .inl h
  · exact .inr ⟨b, o, cap, f, hs, hp, hc, hm, hl.congr (hk b (by simp)) (fun b' hb' => hk b' (by simp [hb'])), rfl⟩

theorem CSl.lt {w : World} {ts : List Co} {s : Value} {fp : List Nat} (h : CSl w ts s fp) : ∀ b ∈ fp, b < w.heap.size :=
  (Co.at_mk (k := 0) (g := 0) (l := 0)|>.2 ⟨s, rfl, h⟩ : Co.At w (.mk 0 0 0 ts) _ fp).lt

theorem CSl.below {w w' : World} {ts : List Co} {s : Value} {fp : List Nat} (h : CSl w ts s fp) (hb : Below w.heap.size w w') : CSl w' ts s fp :=
  h.congr fun b hm o => hb.cell (p := ⟨b, o, none⟩) (h.lt b hm)

theorem CSl.shape {w : World} {ts : List Co} {s : Value} {fp : List Nat} (h : CSl w ts s fp) : ∃ a cap, s = .slice a ts.length cap := by
  rcases h with ⟨rfl, rfl, a, cap, rfl⟩ | ⟨b, o, cap, f, rfl, _⟩
  · exact ⟨a, cap, rfl⟩
  · exact ⟨_, cap, rfl⟩

theorem Co.At.agg {w : World} {t : Co} {v : Value} {fp : List Nat} (h : t.At w v fp) : ∃ k g l n a cap, v = .agg #[.int .i64 k, .int .i64 g, .int .i64 l, .slice a n cap] := by
  obtain ⟨k, g, l, ts, rfl⟩ := t.shape
  obtain ⟨s, rfl, hs⟩ := Co.at_mk.1 h
  obtain ⟨a, cap, rfl⟩ := hs.shape
  exact ⟨_, _, _, _, _, _, rfl⟩

/-- What the four cells say of the tree. -/
theorem Co.At.tree {w : World} {t : Co} {k g l : Int} {s : Value} {fp : List Nat} (h : t.At w (.agg #[.int .i64 k, .int .i64 g, .int .i64 l, s]) fp) : ∃ ts, t = .mk k g l ts ∧ CSl w ts s fp := by
  obtain ⟨k', g', l', ts, rfl⟩ := t.shape
  obtain ⟨s', hv, hs⟩ := Co.at_mk.1 h
  simp only [Value.agg.injEq, Array.mk.injEq, List.cons.injEq, and_true, Value.int.injEq, true_and] at hv
  obtain ⟨rfl, rfl, rfl, rfl⟩ := hv
  exact ⟨ts, rfl, hs⟩

theorem Co.atL_get {w : World} : ∀ {ts : List Co} {b o : Nat} {fp : List Nat}, Co.AtL w ts b o fp → ∀ i, (h : i < ts.length) →
    ∃ k g l n a cap f, w.cell? ⟨b, o + i * 4, none⟩ = some (.int .i64 k) ∧ w.cell? ⟨b, o + i * 4 + 1, none⟩ = some (.int .i64 g) ∧ w.cell? ⟨b, o + i * 4 + 2, none⟩ = some (.int .i64 l) ∧ w.cell? ⟨b, o + i * 4 + 3, none⟩ = some (.slice a n cap) ∧
      Co.At w ts[i] (.agg #[.int .i64 k, .int .i64 g, .int .i64 l, .slice a n cap]) f ∧ (∀ x ∈ f, x ∈ fp)
  | [], _, _, _, _, i, h => by simp at h
  | t :: ts, b, o, fp, hat, i, h => by
    obtain ⟨v0, v1, v2, v3, f1, f2, c0, c1, c2, c3, ha, hl, rfl⟩ := hat
    cases i with
    | zero =>
      obtain ⟨k, g, l, n, a, cap, hv⟩ := ha.agg
      simp only [Value.agg.injEq, Array.mk.injEq, List.cons.injEq, and_true] at hv
      obtain ⟨rfl, rfl, rfl, rfl⟩ := hv
      exact ⟨k, g, l, n, a, cap, f1, by simpa using c0, by simpa using c1, by simpa using c2, by simpa using c3, ha, fun x hx => List.mem_append_left _ hx⟩
    | succ i =>
      obtain ⟨k, g, l, n, a, cap, f, d0, d1, d2, d3, hb, hf⟩ := Co.atL_get hl i (by simpa using h)
      have e : o + (i + 1) * 4 = o + 4 + i * 4 := by omega
      refine ⟨k, g, l, n, a, cap, f, ?_, ?_, ?_, ?_, by simpa using hb, fun x hx => List.mem_append_right _ (hf x hx)⟩ <;> (rw [e]; assumption)

/-- What a loop over a slice of coercions takes: the slice's value, and each element's cells. -/
theorem CSl.open {w : World} {ts : List Co} {s : Value} {fp : List Nat} (h : CSl w ts s fp) :
    ∃ a cap, s = .slice a ts.length cap ∧ ts.length ≤ cap ∧ ts.length ≤ 9223372036854775807 ∧ ∀ i, (h : i < ts.length) → ∃ b o k g l n c cp f, a = some ⟨b, o, none⟩ ∧ b < w.heap.size ∧
      w.cell? ⟨b, o + i * 4, none⟩ = some (.int .i64 k) ∧ w.cell? ⟨b, o + i * 4 + 1, none⟩ = some (.int .i64 g) ∧ w.cell? ⟨b, o + i * 4 + 2, none⟩ = some (.int .i64 l) ∧ w.cell? ⟨b, o + i * 4 + 3, none⟩ = some (.slice c n cp) ∧
      Co.At w ts[i] (.agg #[.int .i64 k, .int .i64 g, .int .i64 l, .slice c n cp]) f ∧ (∀ x ∈ f, x ∈ fp) := by
  rcases h with ⟨rfl, rfl, a, cap, rfl⟩ | ⟨b, o, cap, f, rfl, hp, hc, hm, hl, rfl⟩
  · exact ⟨a, cap, rfl, Nat.zero_le _, by simp, fun i h => by simp at h⟩
  · refine ⟨some ⟨b, o, none⟩, cap, rfl, hc, hm, fun i h => ?_⟩
    obtain ⟨k, g, l, n, c, cp, f1, c0, c1, c2, c3, hat, hf⟩ := Co.atL_get hl i h
    exact ⟨b, o, k, g, l, n, c, cp, f1, rfl, World.block_lt_of_cell? _ _ c0, c0, c1, c2, c3, hat, fun x hx => by simp [hf x hx]⟩

mutual
theorem Co.AtL.congrR {w w' : World} : ∀ {ts : List Co} {b o : Nat} {fp : List Nat}, Co.AtL w ts b o fp → (∀ o', o ≤ o' → o' < o + ts.length * 4 → w'.cell? ⟨b, o', none⟩ = w.cell? ⟨b, o', none⟩) → (∀ b ∈ fp, ∀ o, w'.cell? ⟨b, o, none⟩ = w.cell? ⟨b, o, none⟩) → Co.AtL w' ts b o fp
  | [], _, _, _, h, _, _ => h
  | t :: ts, b, o, fp, h, hb, hk => by
    obtain ⟨v0, v1, v2, v3, f1, f2, c0, c1, c2, c3, ha, hl, rfl⟩ := h
    simp only [List.length_cons] at hb
    exact ⟨v0, v1, v2, v3, f1, f2, (hb _ (Nat.le_refl _) (by omega)).trans c0, (hb _ (by omega) (by omega)).trans c1, (hb _ (by omega) (by omega)).trans c2, (hb _ (by omega) (by omega)).trans c3, Co.At.congr ha (fun x hx => hk x (List.mem_append_left _ hx)), Co.AtL.congrR hl (fun o' h1 h2 => hb o' (by omega) (by omega)) (fun x hx => hk x (List.mem_append_right _ hx)), rfl⟩
end

theorem Co.AtL.snoc {w : World} : ∀ {ts : List Co} {t : Co} {b o : Nat} {f1 f2 : List Nat} {v0 v1 v2 v3 : Value}, Co.AtL w ts b o f1 → w.cell? ⟨b, o + ts.length * 4, none⟩ = some v0 → w.cell? ⟨b, o + ts.length * 4 + 1, none⟩ = some v1 → w.cell? ⟨b, o + ts.length * 4 + 2, none⟩ = some v2 → w.cell? ⟨b, o + ts.length * 4 + 3, none⟩ = some v3 → Co.At w t (.agg #[v0, v1, v2, v3]) f2 → Co.AtL w (ts ++ [t]) b o (f1 ++ f2)
  | [], t, b, o, f1, f2, v0, v1, v2, v3, h, c0, c1, c2, c3, ha => by
    cases h
    exact ⟨v0, v1, v2, v3, f2, [], by simpa using c0, by simpa using c1, by simpa using c2, by simpa using c3, ha, rfl, by simp⟩
  | u :: ts, t, b, o, f1, f2, v0, v1, v2, v3, h, c0, c1, c2, c3, ha => by
    obtain ⟨u0, u1, u2, u3, g1, g2, d0, d1, d2, d3, hu, hl, rfl⟩ := h
    simp only [List.length_cons] at c0 c1 c2 c3
    have e : o + 4 + ts.length * 4 = o + (ts.length + 1) * 4 := by omega
    refine ⟨u0, u1, u2, u3, g1, g2 ++ f2, d0, d1, d2, d3, hu, Co.AtL.snoc hl ?_ ?_ ?_ ?_ ha, by simp⟩ <;> (rw [e]; assumption)

/-- What a call says that hands back a coercion in memory of its own. -/
def MadeC (w : World) (t : Co) (e : Ending) (w' : World) : Prop := ∃ v fp, e = .returned v ∧ t.At w' v fp ∧ Fresh w.heap.size w' fp ∧ Below w.heap.size w w'

theorem CSl.setCell {w : World} {ts : List Co} {s : Value} {fp : List Nat} (h : CSl w ts s fp) {a : Addr} (hn : ∀ b ∈ fp, b ≠ a.block) (u : Value) : CSl (w.setCell a u) ts s fp :=
  h.congr fun b hb o => cell_setCell_ne w a u b o (hn b hb)

theorem Co.At.setCell {w : World} {t : Co} {s : Value} {fp : List Nat} (h : Co.At w t s fp) {a : Addr} (hn : ∀ b ∈ fp, b ≠ a.block) (u : Value) : Co.At (w.setCell a u) t s fp :=
  h.congr fun b hb o => cell_setCell_ne w a u b o (hn b hb)

theorem CSl.above {lo : Nat} {w w' : World} {ts : List Co} {s : Value} {fp : List Nat} (h : CSl w ts s fp) (ha : Above lo w w') (hlo : ∀ b ∈ fp, lo ≤ b) : CSl w' ts s fp :=
  h.congr fun b hb o => World.cell?_of_block (w := w) (a := ⟨b, o, none⟩) (ha.block b (hlo b hb) (h.lt b hb))

theorem Co.At.above {lo : Nat} {w w' : World} {t : Co} {s : Value} {fp : List Nat} (h : Co.At w t s fp) (ha : Above lo w w') (hlo : ∀ b ∈ fp, lo ≤ b) : Co.At w' t s fp :=
  h.congr fun b hb o => World.cell?_of_block (w := w) (a := ⟨b, o, none⟩) (ha.block b (hlo b hb) (h.lt b hb))

mutual
/-- How many nodes lie below the root. -/
def Co.cnt : Co → Nat
  | .mk _ _ _ ts => ts.length + ccntL ts
def ccntL : List Co → Nat
  | [] => 0
  | t :: ts => t.cnt + ccntL ts
end

theorem ccnt_mem : ∀ {ts : List Co} {t : Co}, t ∈ ts → t.cnt ≤ ccntL ts
  | u :: ts, t, h => by
    simp only [ccntL]
    rcases List.mem_cons.1 h with rfl | h
    · omega
    · have := ccnt_mem h
      omega

theorem ctake_succ {ts : List Co} {k : Nat} (h : k < ts.length) : ts.take (k + 1) = ts.take k ++ [ts[k]] := by
  rw [List.take_succ_eq_append_getElem h]

/-- A block of n elements of which the first have been laid, each with memory of its own. -/
def BuiltC (M : Nat) (T : TypeId) (n : Nat) (ds : List Co) (fp : List Nat) (wr : World) : Prop :=
  ∃ C, wr.heap[M]? = some (.cells C T (0, 0)) ∧ C.size = n * 4 ∧ ds.length ≤ n ∧ Co.AtL wr ds M 0 fp ∧ Fresh (M + 1) wr fp

theorem BuiltC.zero {M : Nat} {T : TypeId} {n : Nat} {w : World} {C : Array Value} (h : w.heap[M]? = some (.cells C T (0, 0))) (hC : C.size = n * 4) : BuiltC M T n [] [] w :=
  ⟨C, h, hC, Nat.zero_le _, by simp only [Co.AtL], Fresh.nil _ _⟩

theorem BuiltC.below {M : Nat} {T : TypeId} {n : Nat} {ds : List Co} {fp : List Nat} {w w1 : World} (h : BuiltC M T n ds fp w) (hb : Below w.heap.size w w1) : BuiltC M T n ds fp w1 := by
  obtain ⟨C, hM, hC, hn, hl, hf⟩ := h
  exact ⟨C, (hb.block _ (lt_of_block hM)).trans hM, hC, hn, hl.congr (fun o => hb.cell (p := ⟨M, o, none⟩) (lt_of_block hM)) (fun b hm o => hb.cell (p := ⟨b, o, none⟩) (hl.lt b hm)), hf.below hb⟩

/-- Four stores into a row. -/
def put4 (w : World) (M o : Nat) (x0 x1 x2 x3 : Value) : World := (((w.setCell ⟨M, o, none⟩ x0).setCell ⟨M, o + 1, none⟩ x1).setCell ⟨M, o + 2, none⟩ x2).setCell ⟨M, o + 3, none⟩ x3

theorem BuiltC.set {M : Nat} {T : TypeId} {n k : Nat} {ds : List Co} {t : Co} {x0 x1 x2 x3 : Value} {f fp : List Nat} {w : World} {lo : Nat} (h : BuiltC M T n ds fp w) (hk : ds.length = k) (hlt : k < n) (ht : t.At w (.agg #[x0, x1, x2, x3]) f) (hlo : Fresh lo w f)
    (hsep : ∀ b ∈ fp, b < lo) (hM : M < lo) : BuiltC M T n (ds ++ [t]) (fp ++ f) (put4 w M (k * 4) x0 x1 x2 x3) := by
  subst hk
  obtain ⟨C, hB, hC, hn, hl, hf⟩ := h
  have h1 := heap_setCell_at (o := ds.length * 4) hB x0
  have h2 := heap_setCell_at (o := ds.length * 4 + 1) h1 x1
  have h3 := heap_setCell_at (o := ds.length * 4 + 2) h2 x2
  have h4 := heap_setCell_at (o := ds.length * 4 + 3) h3 x3
  have hab := ((((Above.refl (M + 1) w).setCell (p := ⟨M, ds.length * 4, none⟩) (Nat.lt_succ_self _) x0).setCell (p := ⟨M, ds.length * 4 + 1, none⟩) (Nat.lt_succ_self _) x1).setCell (p := ⟨M, ds.length * 4 + 2, none⟩) (Nat.lt_succ_self _) x2).setCell (p := ⟨M, ds.length * 4 + 3, none⟩) (Nat.lt_succ_self _) x3
  have hcl : ∀ o', o' < ds.length * 4 → (put4 w M (ds.length * 4) x0 x1 x2 x3).cell? ⟨M, o', none⟩ = w.cell? ⟨M, o', none⟩ := by
    intro o' ho
    unfold put4
    rw [cell_of_block h4, cell_of_block hB, Array.getElem?_setIfInBounds_ne (by omega), Array.getElem?_setIfInBounds_ne (by omega), Array.getElem?_setIfInBounds_ne (by omega), Array.getElem?_setIfInBounds_ne (by omega)]
  have hl' : Co.AtL (put4 w M (ds.length * 4) x0 x1 x2 x3) ds M 0 fp :=
    hl.congrR (fun o' _ h' => hcl o' (by omega)) (fun b hb o => World.cell?_of_block (w := w) (a := ⟨b, o, none⟩) (hab.block b (hf.ge b hb) (hl.lt b hb)))
  refine ⟨_, h4, by simp [hC], by simp; omega, hl'.snoc (v0 := x0) (v1 := x1) (v2 := x2) (v3 := x3) ?_ ?_ ?_ ?_ (ht.above hab (fun b hb => by have := hlo.ge b hb; omega)), ?_⟩
  · unfold put4
    rw [Nat.zero_add, cell_of_block h4, Array.getElem?_setIfInBounds_ne (by omega), Array.getElem?_setIfInBounds_ne (by omega), Array.getElem?_setIfInBounds_ne (by omega)]
    simp [Array.getElem?_setIfInBounds, hC]; omega
  · unfold put4
    rw [Nat.zero_add, cell_of_block h4, Array.getElem?_setIfInBounds_ne (by omega), Array.getElem?_setIfInBounds_ne (by omega)]
    simp [Array.getElem?_setIfInBounds, hC]; omega
  · unfold put4
    rw [Nat.zero_add, cell_of_block h4, Array.getElem?_setIfInBounds_ne (by omega)]
    simp [Array.getElem?_setIfInBounds, hC]; omega
  · unfold put4
    rw [Nat.zero_add, cell_of_block h4]
    simp [Array.getElem?_setIfInBounds, hC]; omega
  · have hf1 := hf.above hab (Nat.le_refl _)
    have hf2 := hlo.above hab (by omega)
    refine ⟨List.nodup_append.2 ⟨hf1.1, hf2.1, fun a ha b hb e => ?_⟩, fun b hb => ?_⟩
    · have := hsep a ha
      have := hf2.ge b hb
      omega
    · rcases List.mem_append.1 hb with hb | hb
      · exact hf1.2 b hb
      · exact ⟨by have := hf2.ge b hb; omega, (hf2.2 b hb).2⟩

/-- One more element: the call that makes it, then the stores. -/
theorem BuiltC.step {M : Nat} {T : TypeId} {n k : Nat} {ds : List Co} {t : Co} {x0 x1 x2 x3 : Value} {f fp : List Nat} {w w1 : World} (h : BuiltC M T n ds fp w) (hk : ds.length = k) (hlt : k < n) (hb : Below w.heap.size w w1) (ht : t.At w1 (.agg #[x0, x1, x2, x3]) f) (hf : Fresh w.heap.size w1 f) :
    BuiltC M T n (ds ++ [t]) (fp ++ f) (put4 w1 M (k * 4) x0 x1 x2 x3) :=
  (h.below hb).set hk hlt ht hf (let ⟨_, _, _, _, hl, _⟩ := h; hl.lt) (let ⟨_, hB, _⟩ := h; lt_of_block hB)

theorem BuiltC.done {M : Nat} {T : TypeId} {n : Nat} {ds : List Co} {fp : List Nat} {w : World} (h : BuiltC M T n ds fp w) (hn : ds.length = n) (hm : n ≤ maxLen) : ∃ fp, CSl w ds (.slice (some ⟨M, 0, none⟩) n n) fp ∧ Fresh M w fp := by
  obtain ⟨C, hB, hC, _, hl, hf⟩ := h
  subst hn
  by_cases h0 : ds.length = 0
  · exact ⟨[], .inl ⟨List.length_eq_zero_iff.1 h0, rfl, _, _, by rw [h0]⟩, Fresh.nil _ _⟩
  · refine ⟨M :: fp, .inr ⟨M, 0, _, fp, rfl, by omega, Nat.le_refl _, hm, hl, rfl⟩, List.nodup_cons.2 ⟨fun hm => by have := hf.ge _ hm; omega, hf.1⟩, fun b hb => ?_⟩
    rcases List.mem_cons.1 hb with rfl | hb
    · exact ⟨Nat.le_refl _, lt_of_block hB, fun o => frozen_of_block hB⟩
    · exact ⟨by have := hf.ge b hb; omega, (hf.2 b hb).2⟩

/-- The block's own cells, as a walk asks for them. -/
theorem BuiltC.cells {M : Nat} {T : TypeId} {n k : Nat} {ds : List Co} {fp : List Nat} {w w1 : World} (h : BuiltC M T n ds fp w) (hlt : k < n) (hb : Below w.heap.size w w1) :
    ∃ y0 y1 y2 y3, w1.cell? ⟨M, k * 4, none⟩ = some y0 ∧ w1.cell? ⟨M, k * 4 + 1, none⟩ = some y1 ∧ w1.cell? ⟨M, k * 4 + 2, none⟩ = some y2 ∧ w1.cell? ⟨M, k * 4 + 3, none⟩ = some y3 ∧ ∀ o, w1.frozen? ⟨M, o, none⟩ = false := by
  obtain ⟨C, hB, hC, _⟩ := h.below hb
  exact ⟨C[k * 4]'(by omega), C[k * 4 + 1]'(by omega), C[k * 4 + 2]'(by omega), C[k * 4 + 3]'(by omega), by rw [cell_of_block hB]; exact Array.getElem?_eq_getElem _, by rw [cell_of_block hB]; exact Array.getElem?_eq_getElem _, by rw [cell_of_block hB]; exact Array.getElem?_eq_getElem _, by rw [cell_of_block hB]; exact Array.getElem?_eq_getElem _, fun o => frozen_of_block hB⟩

/-- The cells of a struct of four that has just been boxed. -/
theorem box4 {w wr : World} {x y z u : Value} {T : TypeId} (h : Below (w.alloc (Obj.cells #[x, y, z, u] T)).heap.size (w.alloc (Obj.cells #[x, y, z, u] T)) wr) :
    wr.cell? ⟨w.heap.size, 0, none⟩ = some x ∧ wr.cell? ⟨w.heap.size, 1, none⟩ = some y ∧ wr.cell? ⟨w.heap.size, 2, none⟩ = some z ∧ wr.cell? ⟨w.heap.size, 3, none⟩ = some u := by
  have hb := (h.block w.heap.size (by simp)).trans (alloc_new w _)
  exact ⟨by rw [cell_of_block hb]; rfl, by rw [cell_of_block hb]; rfl, by rw [cell_of_block hb]; rfl, by rw [cell_of_block hb]; rfl⟩

/-- The parts of a reading of one operand. -/
theorem CSl.one {w : World} {x : Co} {s : Value} {fp : List Nat} (h : CSl w [x] s fp) :
    ∃ b o cap k1 g1 l1 n1 a1 c1 f1, s = .slice (some ⟨b, o, none⟩) 1 cap ∧ b < w.heap.size ∧ w.cell? ⟨b, o, none⟩ = some (.int .i64 k1) ∧ w.cell? ⟨b, o + 1, none⟩ = some (.int .i64 g1) ∧ w.cell? ⟨b, o + 2, none⟩ = some (.int .i64 l1) ∧ w.cell? ⟨b, o + 3, none⟩ = some (.slice a1 n1 c1) ∧
      x.At w (.agg #[.int .i64 k1, .int .i64 g1, .int .i64 l1, .slice a1 n1 c1]) f1 ∧ fp = b :: f1 ∧ 1 ≤ cap := by
  rcases h with ⟨h, _⟩ | ⟨b, o, cap, f, rfl, _, hc, _, hl, rfl⟩
  · cases h
  · obtain ⟨v0, v1, v2, v3, f1, f2, c0, c1, c2, c3, hx, hl, rfl⟩ := hl
    cases hl
    obtain ⟨k1, g1, l1, n1, a1, cap1, hv⟩ := hx.agg
    simp only [Value.agg.injEq, Array.mk.injEq, List.cons.injEq, and_true] at hv
    obtain ⟨rfl, rfl, rfl, rfl⟩ := hv
    exact ⟨b, o, cap, k1, g1, l1, n1, a1, cap1, f1, rfl, World.block_lt_of_cell? _ _ c0, c0, c1, c2, c3, hx, by simp, hc⟩

/-- The parts of a reading of two operands. -/
theorem CSl.two {w : World} {x y : Co} {s : Value} {fp : List Nat} (h : CSl w [x, y] s fp) :
    ∃ b o cap k1 g1 l1 n1 a1 c1 k2 g2 l2 n2 a2 c2 f1 f2, s = .slice (some ⟨b, o, none⟩) 2 cap ∧ b < w.heap.size ∧ w.cell? ⟨b, o, none⟩ = some (.int .i64 k1) ∧ w.cell? ⟨b, o + 1, none⟩ = some (.int .i64 g1) ∧ w.cell? ⟨b, o + 2, none⟩ = some (.int .i64 l1) ∧ w.cell? ⟨b, o + 3, none⟩ = some (.slice a1 n1 c1) ∧
      w.cell? ⟨b, o + 4, none⟩ = some (.int .i64 k2) ∧ w.cell? ⟨b, o + 4 + 1, none⟩ = some (.int .i64 g2) ∧ w.cell? ⟨b, o + 4 + 2, none⟩ = some (.int .i64 l2) ∧ w.cell? ⟨b, o + 4 + 3, none⟩ = some (.slice a2 n2 c2) ∧
      x.At w (.agg #[.int .i64 k1, .int .i64 g1, .int .i64 l1, .slice a1 n1 c1]) f1 ∧ y.At w (.agg #[.int .i64 k2, .int .i64 g2, .int .i64 l2, .slice a2 n2 c2]) f2 ∧ fp = b :: (f1 ++ f2) ∧ 2 ≤ cap := by
  rcases h with ⟨h, _⟩ | ⟨b, o, cap, f, rfl, _, hc, _, hl, rfl⟩
  · cases h
  · obtain ⟨v0, v1, v2, v3, f1, f2, c0, c1, c2, c3, hx, hl, rfl⟩ := hl
    obtain ⟨u0, u1, u2, u3, g1, g2, d0, d1, d2, d3, hy, hl, rfl⟩ := hl
    cases hl
    obtain ⟨k1, q1, l1, n1, a1, cap1, hv⟩ := hx.agg
    obtain ⟨k2, q2, l2, n2, a2, cap2, hu⟩ := hy.agg
    simp only [Value.agg.injEq, Array.mk.injEq, List.cons.injEq, and_true] at hv hu
    obtain ⟨rfl, rfl, rfl, rfl⟩ := hv
    obtain ⟨rfl, rfl, rfl, rfl⟩ := hu
    exact ⟨b, o, cap, k1, q1, l1, n1, a1, cap1, k2, q2, l2, n2, a2, cap2, f1, g1, rfl, World.block_lt_of_cell? _ _ c0, c0, c1, c2, c3, d0, d1, d2, d3, hx, hy, by simp, hc⟩

theorem all_one {ts : List Co} (h : ts.length = 1) (p : Co → Bool) : ts.all p = p (ts[0]'(by omega)) := by
  match ts, h with
  | [x], _ => simp

theorem CSl.nilA {w : World} {a : Option Addr} {cap : Nat} : CSl w [] (.slice a 0 cap) [] := .inl ⟨rfl, rfl, a, cap, rfl⟩

end Go.Proofs.Ytolhfcpmhhhjpaa

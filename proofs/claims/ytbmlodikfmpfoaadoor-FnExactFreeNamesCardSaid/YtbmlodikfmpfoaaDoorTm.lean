/- Terms as trees: how a Term lies in memory, and what keeps it there. -/
import Derived.Test.YtbmlodikfmpfoaaDoorTy
namespace Go.Proofs.YtbmlodikfmpfoaaDoor
open Go.RowKit

inductive Tm where
  | mk (k : Int) (nm : ByteArray) (num : Int) (ty fr : Ty) (lb : Int) (ts : List Tm)

theorem Tm.ind {P : Tm → Prop} (h : ∀ k nm num ty fr lb ts, (∀ t ∈ ts, P t) → P (.mk k nm num ty fr lb ts)) : ∀ t, P t
  | .mk k nm num ty fr lb ts => h k nm num ty fr lb ts (fun t _ => Tm.ind h t)

mutual
/-- In the world w the value v reads as the term; fp: the blocks of its slices. -/
def Tm.At (w : World) : Tm → Value → List Nat → Prop
  | .mk k nm num ty fr lb ts, v, fp => ∃ k1 s1 k2 s2 s f1 f2 f3, v = .agg #[.int .i64 k, .string nm, .int .i64 num, k1, s1, k2, s2, .int .i64 lb, s] ∧ nm.size ≤ maxLen ∧ Ty.At w ty (.agg #[k1, s1]) f1 ∧ Ty.At w fr (.agg #[k2, s2]) f2 ∧ fp = f1 ++ (f2 ++ f3) ∧
     ((ts = [] ∧ f3 = [] ∧ ∃ a cap, s = .slice a 0 cap) ∨
      ∃ b o cap f, s = .slice (some ⟨b, o, none⟩) ts.length cap ∧ 0 < ts.length ∧ ts.length ≤ cap ∧ ts.length ≤ maxLen ∧ Tm.AtL w ts b o f ∧ f3 = b :: f)
def Tm.AtL (w : World) : List Tm → Nat → Nat → List Nat → Prop
  | [], _, _, fp => fp = []
  | t :: ts, b, o, fp => ∃ cs f1 f2, (∀ i, i < 9 → w.cell? ⟨b, o + i, none⟩ = cs[i]?) ∧ Tm.At w t (.agg cs) f1 ∧ Tm.AtL w ts b (o + 9) f2 ∧ fp = f1 ++ f2
end

/-- A slice value that reads as a list of terms. -/
def SmAt (w : World) (ts : List Tm) (s : Value) (fp : List Nat) : Prop :=
  (ts = [] ∧ fp = [] ∧ ∃ a cap, s = .slice a 0 cap) ∨
  ∃ b o cap f, s = .slice (some ⟨b, o, none⟩) ts.length cap ∧ 0 < ts.length ∧ ts.length ≤ cap ∧ ts.length ≤ maxLen ∧ Tm.AtL w ts b o f ∧ fp = b :: f

theorem Tm.at_mk {w : World} {k : Int} {nm : ByteArray} {num : Int} {ty fr : Ty} {lb : Int} {ts : List Tm} {v : Value} {fp : List Nat} : Tm.At w (.mk k nm num ty fr lb ts) v fp ↔
    ∃ k1 s1 k2 s2 s f1 f2 f3, v = .agg #[.int .i64 k, .string nm, .int .i64 num, k1, s1, k2, s2, .int .i64 lb, s] ∧ nm.size ≤ maxLen ∧ Ty.At w ty (.agg #[k1, s1]) f1 ∧ Ty.At w fr (.agg #[k2, s2]) f2 ∧ fp = f1 ++ (f2 ++ f3) ∧ SmAt w ts s f3 := by
  simp only [Tm.At, SmAt]

theorem Tm.atL_get {w : World} : ∀ {ts : List Tm} {b o : Nat} {fp : List Nat}, Tm.AtL w ts b o fp → ∀ i, (h : i < ts.length) →
    ∃ cs f, (∀ j, j < 9 → w.cell? ⟨b, o + i * 9 + j, none⟩ = cs[j]?) ∧ Tm.At w ts[i] (.agg cs) f ∧ (∀ x ∈ f, x ∈ fp)
  | [], _, _, _, _, i, h => by simp at h
  | t :: ts, b, o, fp, hat, i, h => by
    simp only [Tm.AtL] at hat
    obtain ⟨cs, f1, f2, hc, ha, hl, rfl⟩ := hat
    cases i with
    | zero => exact ⟨cs, f1, fun j hj => by rw [Nat.zero_mul, Nat.add_zero]; exact hc j hj, ha, fun x hx => List.mem_append_left _ hx⟩
    | succ i =>
      obtain ⟨ds, f, hd, hb, hf⟩ := Tm.atL_get hl i (by simpa using h)
      refine ⟨ds, f, fun j hj => ?_, by simpa using hb, fun x hx => List.mem_append_right _ (hf x hx)⟩
      rw [show o + (i + 1) * 9 + j = o + 9 + i * 9 + j by omega]; exact hd j hj

mutual
/-- What reads so in one world reads so in each that has the same cells in its blocks. -/
theorem Tm.At.congr {w w' : World} : ∀ {t : Tm} {v : Value} {fp : List Nat}, Tm.At w t v fp → (∀ b ∈ fp, ∀ o, w'.cell? ⟨b, o, none⟩ = w.cell? ⟨b, o, none⟩) → Tm.At w' t v fp
  | .mk k nm num ty fr lb ts, v, fp, h, hk => by
    simp only [Tm.At] at h ⊢
    obtain ⟨k1, s1, k2, s2, s, f1, f2, f3, hv, hnm, h1, h2, rfl, h⟩ := h
    refine ⟨k1, s1, k2, s2, s, f1, f2, f3, hv, hnm, h1.congr (fun b hb => hk b (by simp [hb])), h2.congr (fun b hb => hk b (by simp [hb])), rfl, ?_⟩
    rcases h with h | ⟨b, o, cap, f, hs, hp, hc, hm, hl, rfl⟩
    · exact .inl h
    · exact .inr ⟨b, o, cap, f, hs, hp, hc, hm, Tm.AtL.congr hl (hk b (by simp)) (fun b' hb' => hk b' (by simp [hb'])), rfl⟩
theorem Tm.AtL.congr {w w' : World} : ∀ {ts : List Tm} {b o : Nat} {fp : List Nat}, Tm.AtL w ts b o fp → (∀ o, w'.cell? ⟨b, o, none⟩ = w.cell? ⟨b, o, none⟩) → (∀ b ∈ fp, ∀ o, w'.cell? ⟨b, o, none⟩ = w.cell? ⟨b, o, none⟩) → Tm.AtL w' ts b o fp
  | [], _, _, _, h, _, _ => by simp only [Tm.AtL] at h ⊢; exact h
  | t :: ts, b, o, fp, h, hb, hk => by
    simp only [Tm.AtL] at h ⊢
    obtain ⟨cs, f1, f2, hc, ha, hl, rfl⟩ := h
    exact ⟨cs, f1, f2, fun i hi => (hb _).trans (hc i hi), Tm.At.congr ha (fun x hx => hk x (List.mem_append_left _ hx)), Tm.AtL.congr hl hb (fun x hx => hk x (List.mem_append_right _ hx)), rfl⟩
end

mutual
theorem Tm.size9 {w : World} : ∀ {t : Tm} {cs : Array Value} {fp : List Nat}, Tm.At w t (.agg cs) fp → cs.size = 9
  | .mk k nm num ty fr lb ts, cs, fp, h => by
    simp only [Tm.At] at h
    obtain ⟨k1, s1, k2, s2, s, f1, f2, f3, hv, _⟩ := h
    cases hv
    rfl
end

mutual
/-- The blocks lie in the world. -/
theorem Tm.At.lt {w : World} : ∀ {t : Tm} {v : Value} {fp : List Nat}, Tm.At w t v fp → ∀ b ∈ fp, b < w.heap.size
  | .mk k nm num ty fr lb ts, v, fp, h => by
    simp only [Tm.At] at h
    obtain ⟨k1, s1, k2, s2, s, f1, f2, f3, hv, hnm, h1, h2, rfl, h⟩ := h
    intro x hx
    rcases List.mem_append.1 hx with hx | hx
    · exact h1.lt x hx
    rcases List.mem_append.1 hx with hx | hx
    · exact h2.lt x hx
    rcases h with ⟨_, rfl, _⟩ | ⟨b, o, cap, f, hs, hp, hc, hm, hl, rfl⟩
    · cases hx
    · rcases List.mem_cons.1 hx with rfl | hx
      · cases ts with
        | nil => simp at hp
        | cons t ts =>
          simp only [Tm.AtL] at hl
          obtain ⟨cs, f1, f2, hc, ha, _⟩ := hl
          have h9 := Tm.size9 ha
          have := hc 0 (by omega)
          rw [Array.getElem?_eq_getElem (by omega)] at this
          exact World.block_lt_of_cell? _ _ this
      · exact Tm.AtL.lt hl x hx
theorem Tm.AtL.lt {w : World} : ∀ {ts : List Tm} {b o : Nat} {fp : List Nat}, Tm.AtL w ts b o fp → ∀ b ∈ fp, b < w.heap.size
  | [], _, _, _, h => by simp only [Tm.AtL] at h; subst h; simp
  | t :: ts, b, o, fp, h => by
    simp only [Tm.AtL] at h
    obtain ⟨cs, f1, f2, hc, ha, hl, rfl⟩ := h
    intro x hx
    rcases List.mem_append.1 hx with hx | hx
    · exact Tm.At.lt ha x hx
    · exact Tm.AtL.lt hl x hx
end

theorem Tm.At.below {w w' : World} {t : Tm} {v : Value} {fp : List Nat} (h : Tm.At w t v fp) (hb : Below w.heap.size w w') : Tm.At w' t v fp :=
  h.congr fun b hm o => hb.cell (p := ⟨b, o, none⟩) (h.lt b hm)

theorem SmAt.congr {w w' : World} {ts : List Tm} {s : Value} {fp : List Nat} (h : SmAt w ts s fp) (hk : ∀ b ∈ fp, ∀ o, w'.cell? ⟨b, o, none⟩ = w.cell? ⟨b, o, none⟩) : SmAt w' ts s fp := by
  rcases h with h | ⟨b, o, cap, f, hs, hp, hc, hm, hl, rfl⟩
  · exact .inl h
  · exact .inr ⟨b, o, cap, f, hs, hp, hc, hm, hl.congr (hk b (by simp)) (fun b' hb' => hk b' (by simp [hb'])), rfl⟩

theorem SmAt.lt {w : World} {ts : List Tm} {s : Value} {fp : List Nat} (h : SmAt w ts s fp) : ∀ b ∈ fp, b < w.heap.size := by
  have h0 : Ty.At w (.mk 0 []) (.agg #[.int .i64 0, .slice none 0 0]) [] := Ty.at_mk.2 ⟨_, rfl, .inl ⟨rfl, rfl, _, _, rfl⟩⟩
  exact (Tm.at_mk (k := 0) (nm := ByteArray.empty) (num := 0) (lb := 0) |>.2 ⟨_, _, _, _, s, [], [], fp, rfl, by decide, h0, h0, rfl, h⟩).lt

theorem SmAt.below {w w' : World} {ts : List Tm} {s : Value} {fp : List Nat} (h : SmAt w ts s fp) (hb : Below w.heap.size w w') : SmAt w' ts s fp :=
  h.congr fun b hm o => hb.cell (p := ⟨b, o, none⟩) (h.lt b hm)

theorem Tm.shape (t : Tm) : ∃ k nm num ty fr lb ts, t = .mk k nm num ty fr lb ts := by cases t; exact ⟨_, _, _, _, _, _, _, rfl⟩

/-- What a loop over a slice of terms takes: the slice's value, and each element's cells, written out. -/
theorem SmAt.open {w : World} {ts : List Tm} {s : Value} {fp : List Nat} (h : SmAt w ts s fp) :
    ∃ a cap, s = .slice a ts.length cap ∧ ts.length ≤ cap ∧ ts.length ≤ 9223372036854775807 ∧ ∀ i, (h : i < ts.length) → ∃ b o k nm num k1 n1 a1 c1 k2 n2 a2 c2 lb n3 a3 c3 f, a = some ⟨b, o, none⟩ ∧ b < w.heap.size ∧
      w.cell? ⟨b, o + i * 9, none⟩ = some (.int .i64 k) ∧ w.cell? ⟨b, o + i * 9 + 1, none⟩ = some (.string nm) ∧ w.cell? ⟨b, o + i * 9 + 2, none⟩ = some (.int .i64 num) ∧
      w.cell? ⟨b, o + i * 9 + 3, none⟩ = some (.int .i64 k1) ∧ w.cell? ⟨b, o + i * 9 + 4, none⟩ = some (.slice a1 n1 c1) ∧ w.cell? ⟨b, o + i * 9 + 5, none⟩ = some (.int .i64 k2) ∧ w.cell? ⟨b, o + i * 9 + 6, none⟩ = some (.slice a2 n2 c2) ∧
      w.cell? ⟨b, o + i * 9 + 7, none⟩ = some (.int .i64 lb) ∧ w.cell? ⟨b, o + i * 9 + 8, none⟩ = some (.slice a3 n3 c3) ∧
      Tm.At w ts[i] (.agg #[.int .i64 k, .string nm, .int .i64 num, .int .i64 k1, .slice a1 n1 c1, .int .i64 k2, .slice a2 n2 c2, .int .i64 lb, .slice a3 n3 c3]) f ∧ (∀ x ∈ f, x ∈ fp) := by
  rcases h with ⟨rfl, rfl, a, cap, rfl⟩ | ⟨b, o, cap, f, rfl, hp, hc, hm, hl, rfl⟩
  · exact ⟨a, cap, rfl, Nat.zero_le _, by simp, fun i h => by simp at h⟩
  · refine ⟨some ⟨b, o, none⟩, cap, rfl, hc, hm, fun i h => ?_⟩
    obtain ⟨cs, f1, hcs, hat, hf⟩ := Tm.atL_get hl i h
    obtain ⟨k, nm, num, ty, fr, lb, us, hu⟩ := (ts[i]).shape
    rw [hu] at hat
    have hat0 := hat
    obtain ⟨k1, s1, k2, s2, s, g1, g2, g3, hv, hnm, h1, h2, rfl, h3⟩ := Tm.at_mk.1 hat
    obtain ⟨k1', n1, a1, c1, e1⟩ := h1.agg
    obtain ⟨k2', n2, a2, c2, e2⟩ := h2.agg
    simp only [Value.agg.injEq, Array.mk.injEq, List.cons.injEq, and_true] at e1 e2
    obtain ⟨rfl, rfl⟩ := e1
    obtain ⟨rfl, rfl⟩ := e2
    obtain ⟨a3, c3, rfl⟩ : ∃ a cap, s = .slice a us.length cap := by
      rcases h3 with ⟨rfl, rfl, a, cap, rfl⟩ | ⟨b, o, cap, f, rfl, _⟩
      · exact ⟨_, _, rfl⟩
      · exact ⟨_, _, rfl⟩
    cases hv
    have q := fun j hj => hcs j hj
    have q0 := q 0 (by omega)
    exact ⟨b, o, k, nm, num, k1', n1, a1, c1, k2', n2, a2, c2, lb, us.length, a3, c3, _, rfl, World.block_lt_of_cell? _ _ q0, q0, q 1 (by omega), q 2 (by omega), q 3 (by omega), q 4 (by omega), q 5 (by omega), q 6 (by omega), q 7 (by omega), q 8 (by omega),
      by rw [hu]; exact hat0, fun x hx => List.mem_cons_of_mem _ (hf x hx)⟩

theorem SmAt.shape {w : World} {ts : List Tm} {s : Value} {fp : List Nat} (h : SmAt w ts s fp) : ∃ a cap, s = .slice a ts.length cap :=
  let ⟨a, cap, hs, _⟩ := h.open
  ⟨a, cap, hs⟩

/-- A term's value written out, with its parts. -/
theorem Tm.At.parts {w : World} {k : Int} {nm : ByteArray} {num : Int} {ty fr : Ty} {lb : Int} {ts : List Tm} {v : Value} {fp : List Nat} (h : Tm.At w (.mk k nm num ty fr lb ts) v fp) :
    ∃ k1 n1 a1 c1 k2 n2 a2 c2 a3 c3 f1 f2 f3, v = .agg #[.int .i64 k, .string nm, .int .i64 num, .int .i64 k1, .slice a1 n1 c1, .int .i64 k2, .slice a2 n2 c2, .int .i64 lb, .slice a3 ts.length c3] ∧ nm.size ≤ 9223372036854775807 ∧
      Ty.At w ty (.agg #[.int .i64 k1, .slice a1 n1 c1]) f1 ∧ Ty.At w fr (.agg #[.int .i64 k2, .slice a2 n2 c2]) f2 ∧ fp = f1 ++ (f2 ++ f3) ∧ SmAt w ts (.slice a3 ts.length c3) f3 := by
  obtain ⟨k1, s1, k2, s2, s, g1, g2, g3, hv, hnm, h1, h2, rfl, h3⟩ := Tm.at_mk.1 h
  obtain ⟨k1', n1, a1, c1, e1⟩ := h1.agg
  obtain ⟨k2', n2, a2, c2, e2⟩ := h2.agg
  simp only [Value.agg.injEq, Array.mk.injEq, List.cons.injEq, and_true] at e1 e2
  obtain ⟨rfl, rfl⟩ := e1
  obtain ⟨rfl, rfl⟩ := e2
  obtain ⟨a3, c3, rfl⟩ := h3.shape
  exact ⟨_, _, _, _, _, _, _, _, _, _, _, _, _, hv, hnm, h1, h2, rfl, h3⟩

theorem Tm.At.agg {w : World} {t : Tm} {v : Value} {fp : List Nat} (h : t.At w v fp) : ∃ k nm num k1 n1 a1 c1 k2 n2 a2 c2 lb n3 a3 c3, v = .agg #[.int .i64 k, .string nm, .int .i64 num, .int .i64 k1, .slice a1 n1 c1, .int .i64 k2, .slice a2 n2 c2, .int .i64 lb, .slice a3 n3 c3] := by
  obtain ⟨k, nm, num, ty, fr, lb, ts, rfl⟩ := t.shape
  obtain ⟨k1, n1, a1, c1, k2, n2, a2, c2, a3, c3, f1, f2, f3, hv, _⟩ := h.parts
  exact ⟨_, _, _, _, _, _, _, _, _, _, _, _, _, _, _, hv⟩

/-- What a call says that hands back a term in memory of its own. -/
def MadeM (w : World) (t : Tm) (e : Ending) (w' : World) : Prop := ∃ v fp, e = .returned v ∧ t.At w' v fp ∧ Fresh w.heap.size w' fp ∧ Below w.heap.size w w'

def MadeMS (w : World) (ts : List Tm) (e : Ending) (w' : World) : Prop := ∃ s fp, e = .returned s ∧ SmAt w' ts s fp ∧ Fresh w.heap.size w' fp ∧ Below w.heap.size w w'

theorem SmAt.above {lo : Nat} {w w' : World} {ts : List Tm} {s : Value} {fp : List Nat} (h : SmAt w ts s fp) (ha : Above lo w w') (hlo : ∀ b ∈ fp, lo ≤ b) : SmAt w' ts s fp :=
  h.congr fun b hb o => World.cell?_of_block (w := w) (a := ⟨b, o, none⟩) (ha.block b (hlo b hb) (h.lt b hb))

theorem Tm.At.above {lo : Nat} {w w' : World} {t : Tm} {s : Value} {fp : List Nat} (h : Tm.At w t s fp) (ha : Above lo w w') (hlo : ∀ b ∈ fp, lo ≤ b) : Tm.At w' t s fp :=
  h.congr fun b hb o => World.cell?_of_block (w := w) (a := ⟨b, o, none⟩) (ha.block b (hlo b hb) (h.lt b hb))

mutual
/-- How many bytes and nodes the laws count below the root. -/
def Tm.sz : Tm → Nat
  | .mk _ nm _ ty fr _ ts => nm.size + ty.cnt + fr.cnt + (ts.length + szML ts)
def szML : List Tm → Nat
  | [] => 0
  | t :: ts => t.sz + szML ts
end

theorem sz_mem : ∀ {ts : List Tm} {t : Tm}, t ∈ ts → t.sz ≤ szML ts
  | u :: ts, t, h => by
    simp only [szML]
    rcases List.mem_cons.1 h with rfl | h
    · omega
    · have := sz_mem h
      omega

end Go.Proofs.YtbmlodikfmpfoaaDoor

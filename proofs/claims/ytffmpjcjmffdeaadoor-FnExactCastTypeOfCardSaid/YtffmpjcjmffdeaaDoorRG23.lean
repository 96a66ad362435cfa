/- The program's check: what stands in its two loops. The program's check: what stands between the rounds of its loops. -/
import Derived.Test.YtffmpjcjmffdeaaDoorRG19
import Derived.Test.YtffmpjcjmffdeaaDoorRRuD
namespace Go.Proofs.YtffmpjcjmffdeaaDoor
open Go.RowKit

theorem ruleM_len {xs : List Bd} {k : Int} {nm : ByteArray} {ty fr : Ty} {us ws : List Ty} {r : Ty} (h : ruleM xs k nm ty fr us = some (ws, r)) (hk : kidsM k = (us.length : Int)) : ws.length = us.length := by
  unfold ruleM at h
  by_cases h1 : k = 1
  · subst h1
    have h0 : kidsM 1 = 0 := by decide
    rw [if_pos rfl] at h
    cases hl : look xs nm with
    | none => rw [hl] at h; simp at h
    | some t => rw [hl] at h; simp only [Option.map_some, Option.some.injEq, Prod.mk.injEq] at h; rw [← h.1, List.length_nil]; omega
  rw [if_neg h1] at h
  by_cases h2 : k = 2
  · subst h2
    have h0 : kidsM 2 = 0 := by decide
    rw [if_pos rfl] at h
    simp only [Option.some.injEq, Prod.mk.injEq] at h; rw [← h.1, List.length_nil]; omega
  rw [if_neg h2] at h
  by_cases h3 : k = 3 ∨ k = 4
  · have h0 : kidsM k = 0 := by rcases h3 with rfl | rfl <;> decide
    rw [if_pos h3] at h
    simp only [Option.some.injEq, Prod.mk.injEq] at h; rw [← h.1, List.length_nil]; omega
  rw [if_neg h3] at h
  by_cases h5 : k = 5
  · rw [if_pos h5] at h
    simp only [Option.some.injEq, Prod.mk.injEq] at h; rw [← h.1]
  rw [if_neg h5] at h
  by_cases h6 : k = 6
  · subst h6
    have h0 : kidsM 6 = 2 := by decide
    rw [if_pos rfl] at h
    by_cases hm : mtOk 4 (nth us 0) = true
    · rw [if_pos hm] at h
      simp only [Option.some.injEq, Prod.mk.injEq] at h; rw [← h.1, List.length_cons, List.length_cons, List.length_nil]; omega
    · rw [if_neg hm] at h; simp at h
  rw [if_neg h6] at h
  by_cases h7 : k = 7
  · subst h7
    have h0 : kidsM 7 = 2 := by decide
    rw [if_pos rfl] at h
    simp only [Option.some.injEq, Prod.mk.injEq] at h; rw [← h.1, List.length_cons, List.length_cons, List.length_nil]; omega
  rw [if_neg h7] at h
  by_cases h8 : k = 8
  · subst h8
    have h0 : kidsM 8 = 2 := by decide
    rw [if_pos rfl] at h
    simp only [Option.some.injEq, Prod.mk.injEq] at h; rw [← h.1, List.length_cons, List.length_cons, List.length_nil]; omega
  rw [if_neg h8] at h
  by_cases h9 : k = 9
  · subst h9
    have h0 : kidsM 9 = 3 := by decide
    rw [if_pos rfl] at h
    by_cases hm : consOf (nth us 1) (nth us 2) = true
    · rw [if_pos hm] at h
      simp only [Option.some.injEq, Prod.mk.injEq] at h; rw [← h.1, List.length_cons, List.length_cons, List.length_cons, List.length_nil]; omega
    · rw [if_neg hm] at h; simp at h
  rw [if_neg h9] at h
  by_cases h10 : k = 10
  · rw [if_pos h10] at h
    simp only [Option.some.injEq, Prod.mk.injEq] at h; rw [← h.1]
  rw [if_neg h10] at h
  by_cases h11 : k = 11
  · subst h11
    have h0 : kidsM 11 = 1 := by decide
    rw [if_pos rfl] at h
    by_cases hm : mtOk 5 (nth us 0) = true
    · rw [if_pos hm] at h
      simp only [Option.some.injEq, Prod.mk.injEq] at h; rw [← h.1, List.length_cons, List.length_nil]; omega
    · rw [if_neg hm] at h; simp at h
  rw [if_neg h11] at h
  by_cases h12 : k = 12
  · subst h12
    have h0 : kidsM 12 = 1 := by decide
    rw [if_pos rfl] at h
    by_cases hm : mtOk 5 (nth us 0) = true
    · rw [if_pos hm] at h
      simp only [Option.some.injEq, Prod.mk.injEq] at h; rw [← h.1, List.length_cons, List.length_nil]; omega
    · rw [if_neg hm] at h; simp at h
  rw [if_neg h12] at h
  by_cases h13 : k = 13
  · subst h13
    have h0 : kidsM 13 = 1 := by decide
    rw [if_pos rfl] at h
    simp only [Option.some.injEq, Prod.mk.injEq] at h; rw [← h.1, List.length_cons, List.length_nil]; omega
  rw [if_neg h13] at h
  by_cases h14 : k = 14
  · subst h14
    have h0 : kidsM 14 = 1 := by decide
    rw [if_pos rfl] at h
    simp only [Option.some.injEq, Prod.mk.injEq] at h; rw [← h.1, List.length_cons, List.length_nil]; omega
  rw [if_neg h14] at h
  cases h

theorem kids_rng {k : Int} {n : Nat} (h : kidsM k = (n : Int)) : 1 ≤ k ∧ k ≤ 14 ∧ n ≤ 3 := by
  unfold kidsM at h
  repeat' split at h
  all_goals omega

theorem fitL_snoc (F : FitF) : ∀ (es : List Tm) (us ws : List Ty) (e : Tm) (u v : Ty) (s : Int), es.length = us.length → es.length = ws.length → fitL F (es ++ [e]) (us ++ [u]) (ws ++ [v]) s = match fitL F es us ws s with
    | (none, s1) => (none, s1)
    | (some es', s1) => match F s1 e u v with
      | (none, s2) => (none, s2)
      | (some e', s2) => (some (es' ++ [e']), s2)
  | [], [], [], e, u, v, s, _, _ => by
    simp only [List.nil_append, fitL]
    rcases F s e u v with ⟨_ | p, s1⟩ <;> rfl
  | a :: es, b :: us, c :: ws, e, u, v, s, h, h' => by
    simp only [List.cons_append, fitL]
    rcases F s a b c with ⟨_ | p, s1⟩
    · rfl
    · simp only [fitL_snoc F es us ws e u v s1 (by simpa using h) (by simpa using h')]
      rcases fitL F es us ws s1 with ⟨_ | ps, s2⟩
      · rfl
      · simp only
        rcases F s2 e u v with ⟨_ | q, s3⟩ <;> simp
  | [], _ :: _, _, _, _, _, _, h, _ => by simp at h
  | [], [], _ :: _, _, _, _, _, _, h => by simp at h
  | _ :: _, [], _, _, _, _, _, h, _ => by simp at h
  | _ :: _, _ :: _, [], _, _, _, _, _, h => by simp at h

theorem fitL_stop {F : FitF} : ∀ {es es2 : List Tm} {us us2 ws ws2 : List Ty} {s s1 : Int}, es.length = us.length → es.length = ws.length → fitL F es us ws s = (none, s1) → fitL F (es ++ es2) (us ++ us2) (ws ++ ws2) s = (none, s1)
  | [], _, [], _, [], _, s, s1, _, _, h => by simp [fitL] at h
  | a :: es, es2, b :: us, us2, c :: ws, ws2, s, s1, h, h', hf => by
    simp only [List.cons_append, fitL] at hf ⊢
    rcases hc : F s a b c with ⟨_ | p, s2⟩ <;> rw [hc] at hf
    · exact hf
    · simp only at hf ⊢
      rcases hl : fitL F es us ws s2 with ⟨_ | qs, s3⟩ <;> rw [hl] at hf
      · simp only at hf
        rw [fitL_stop (by simpa using h) (by simpa using h') hl]
        exact hf
      · simp at hf
  | [], _, _ :: _, _, _, _, _, _, h, _, _ => by simp at h
  | [], _, [], _, _ :: _, _, _, _, _, h, _ => by simp at h
  | _ :: _, _, [], _, _, _, _, _, h, _, _ => by simp at h
  | _ :: _, _, _ :: _, _, [], _, _, _, _, h, _ => by simp at h

theorem fitL_len {F : FitF} : ∀ {es : List Tm} {us ws : List Ty} {s s1 : Int} {ps : List Tm}, es.length = us.length → es.length = ws.length → fitL F es us ws s = (some ps, s1) → ps.length = es.length
  | [], [], [], s, s1, ps, _, _, h => by simp only [fitL, Prod.mk.injEq, Option.some.injEq] at h; rw [← h.1]
  | a :: es, b :: us, c :: ws, s, s1, ps, h, h', hf => by
    simp only [fitL] at hf
    rcases hc : F s a b c with ⟨_ | p, s2⟩ <;> rw [hc] at hf
    · simp at hf
    · simp only at hf
      rcases hl : fitL F es us ws s2 with ⟨_ | qs, s3⟩ <;> rw [hl] at hf
      · simp at hf
      · simp only [Prod.mk.injEq, Option.some.injEq] at hf
        rw [← hf.1, List.length_cons, List.length_cons, fitL_len (by simpa using h) (by simpa using h') hl]
  | [], _ :: _, _, _, _, _, h, _, _ => by simp at h
  | [], [], _ :: _, _, _, _, _, h, _ => by simp at h
  | _ :: _, [], _, _, _, _, h, _, _ => by simp at h
  | _ :: _, _ :: _, [], _, _, _, _, h, _ => by simp at h

theorem fitL_take {F : FitF} {es : List Tm} {us ws : List Ty} {j : Nat} (h : j < es.length) (hu : j < us.length) (hw : j < ws.length) (s : Int) : fitL F (es.take (j + 1)) (us.take (j + 1)) (ws.take (j + 1)) s = match fitL F (es.take j) (us.take j) (ws.take j) s with
    | (none, s1) => (none, s1)
    | (some es', s1) => match F s1 es[j] us[j] ws[j] with
      | (none, s2) => (none, s2)
      | (some e', s2) => (some (es' ++ [e']), s2) := by
  rw [List.take_succ_eq_append_getElem h, List.take_succ_eq_append_getElem hu, List.take_succ_eq_append_getElem hw]
  exact fitL_snoc F _ _ _ _ _ _ s (by simp; omega) (by simp; omega)

theorem fitL_none {F : FitF} {es : List Tm} {us ws : List Ty} {j : Nat} {s s1 : Int} (hu : us.length = es.length) (hw : ws.length = es.length) (h : fitL F (es.take j) (us.take j) (ws.take j) s = (none, s1)) : fitL F es us ws s = (none, s1) := by
  have := fitL_stop (es2 := es.drop j) (us2 := us.drop j) (ws2 := ws.drop j) (by simp [hu]) (by simp [hw]) h
  rwa [List.take_append_drop, List.take_append_drop, List.take_append_drop] at this

/-- What the fitter's state may stand: writing of other blocks. -/
def KeepI (U : Option Nat) (I : Int → World → Prop) : Prop := ∀ s w w', I s w → (∀ b, U = some b → w'.heap[b]? = w.heap[b]?) → I s w'

theorem KeepI.below {U : Option Nat} {I : Int → World → Prop} (h : KeepI U I) {s : Int} {B : Nat} {w w' : World} (hI : I s w) (hU : UL U B) (hb : Below B w w') : I s w' := h s w w' hI fun b e => hb.block b (hU b e)
theorem KeepI.put {U : Option Nat} {I : Int → World → Prop} (h : KeepI U I) {s : Int} {B P o : Nat} {vs : List Value} {w : World} (hI : I s w) (hU : UL U B) (hP : B ≤ P) : I s (put w P o vs) := h s w _ hI fun b e => heap_put_ne (by have := hU b e; omega)
end Go.Proofs.YtffmpjcjmffdeaaDoor

namespace Go.Proofs.YtffmpjcjmffdeaaDoor
open Go.RowKit

/-- A block beside the boxes of a check that began with S blocks. -/
def Nb (S M1 M2 b : Nat) : Prop := b < S ∨ (S + 2 < b ∧ b ≠ M1 ∧ b ≠ M2)

structure CkI (Z : Bool) (U : Option Nat) (I : Int → World → Prop) (A : List Nat) (w : World) (M1 M2 N2 n : Nat) (bx : Array Value) (es : List Tm) (us : List Ty) (s1 : Int) (wr : World) : Prop where
  box : wr.heap[w.heap.size]? = some (.cells bx 35 (0, 0))
  zb : wr.heap[w.heap.size + 1]? = some (Obj.cells #[.int .i64 0, .string ⟨#[]⟩, .int .i64 0, .int .i64 0, .slice none 0 0, .int .i64 0, .slice none 0 0, .int .i64 0, .slice none 0 0] 35)
  tz : wr.heap[w.heap.size + 1 + 1]? = some (Obj.cells #[.int .i64 0, .slice none 0 0] 32)
  lm : ∃ fm ft, LaidM M1 35 n es fm wr ∧ LaidT M2 32 n us ft wr ∧ Src Z U A w wr (fm ++ ft) ∧ ∀ b ∈ fm ++ ft, Nb w.heap.size M1 N2 b
  bo : Bo U w wr
  st : I s1 wr
  ul : UL U w.heap.size
  m1 : w.heap.size + 2 < M1
  m2 : w.heap.size + 2 < M2
  ne : M1 ≠ M2

theorem CkI.move {Z : Bool} {U : Option Nat} {I : Int → World → Prop} {A : List Nat} {w wr w2 : World} {M1 M2 N2 n : Nat} {bx : Array Value} {es : List Tm} {us : List Ty} {s1 s2 : Int} (h : CkI Z U I A w M1 M2 N2 n bx es us s1 wr) (hb : Bo U wr w2) (hI : I s2 w2) :
    CkI Z U I A w M1 M2 N2 n bx es us s2 w2 := by
  obtain ⟨fm, ft, lm, lt, sr, nb⟩ := h.lm
  have hlt : ∀ b ∈ fm ++ ft, b < wr.heap.size := fun b hm => by
    rcases List.mem_append.1 hm with hm | hm
    · exact lm.lt.2 b hm
    · exact lt.lt.2 b hm
  have g : ∀ b ∈ fm ++ ft, some b ≠ U := fun b hm => (sr b hm).2.2
  have m1 := h.m1
  have m2 := h.m2
  exact ⟨hb.block' h.box (h.ul.ne (Nat.le_refl _)), hb.block' h.zb (h.ul.ne (by omega)), hb.block' h.tz (h.ul.ne (by omega)),
    ⟨fm, ft, lm.bo hb (h.ul.ne (by omega)) (fun b hm => g b (by simp [hm])), lt.bo hb (h.ul.ne (by omega)) (fun b hm => g b (by simp [hm])), sr.later hlt hb, nb⟩, h.bo.trans hb, hI, h.ul, m1, m2, h.ne⟩

/-- One more operand: nine stores and two. -/
theorem CkI.push {Z : Bool} {U : Option Nat} {I : Int → World → Prop} {A : List Nat} {w w2 : World} {M1 M2 n j : Nat} {bx : Array Value} {es : List Tm} {us : List Ty} {s1 : Int} {e : Tm} {t : Ty} {vs : List Value} {x y : Value} {f1 f2 : List Nat}
    (h : CkI Z U I A w M1 M2 M2 n bx es us s1 w2) (hK : KeepI U I) (he : es.length = j) (hu : us.length = j) (hj : j < n) (h1 : e.At w2 (.agg vs.toArray) f1) (h2 : t.At w2 (.agg #[x, y]) f2) (hs : Src Z U A w w2 (f1 ++ f2)) (hn : ∀ b ∈ f1 ++ f2, Nb w.heap.size M1 M2 b) :
    CkI Z U I A w M1 M2 M2 n bx (es ++ [e]) (us ++ [t]) s1 (put (put w2 M1 (j * 9) vs) M2 (j * 2) [x, y]) := by
  obtain ⟨fm, ft, lm, lt, sr, nb⟩ := h.lm
  have m1 := h.m1
  have m2 := h.m2
  have ne := h.ne
  have nbm : ∀ b, Nb w.heap.size M1 M2 b → b ≠ M1 ∧ b ≠ M2 := fun b hb => by
    rcases hb with hb | hb <;> omega
  have hall : ∀ b ∈ (fm ++ f1) ++ (ft ++ f2), Nb w.heap.size M1 M2 b ∧ ((b ∈ A ∨ w.heap.size ≤ b) ∧ Gd Z U w2 b) := fun b hm => by
    have : b ∈ fm ++ ft ∨ b ∈ f1 ++ f2 := by
      simp only [List.mem_append] at hm ⊢
      rcases hm with (h | h) | (h | h) <;> simp [h]
    rcases this with hm | hm
    · exact ⟨nb b hm, sr b hm⟩
    · exact ⟨hn b hm, hs b hm⟩
  have hpm := lm.push he hj h1 (fun hm => (nbm _ (hn M1 (by simp [hm]))).1 rfl)
  have hpt := (lt.putne (vs := vs) (o := j * 9) (P := M1) (Ne.symm ne) (fun hm => (nbm _ (nb M1 (by simp [hm]))).1 rfl)).push hu hj ((h2.putne (M := M1) (o := j * 9) (vs := vs) (fun b hb => (nbm b (hn b (by simp [hb]))).1))) (fun hm => (nbm _ (hn M2 (by simp [hm]))).2 rfl)
  have hpm2 := hpm.putne (P := M2) (o := j * 2) (vs := [x, y]) ne (fun hm => by
    rcases List.mem_append.1 hm with hm | hm
    · exact (nbm _ (nb M2 (by simp [hm]))).2 rfl
    · exact (nbm _ (hn M2 (by simp [hm]))).2 rfl)
  refine ⟨(heap_put_ne (by omega)).trans ((heap_put_ne (by omega)).trans h.box), (heap_put_ne (by omega)).trans ((heap_put_ne (by omega)).trans h.zb), (heap_put_ne (by omega)).trans ((heap_put_ne (by omega)).trans h.tz),
    ⟨_, _, hpm2, hpt, ?_, fun b hm => (hall b hm).1⟩, (h.bo.put (by omega)).put (by omega), hK.put (hK.put h.st h.ul (by omega)) h.ul (by omega), h.ul, m1, m2, ne⟩
  have hsrc : Src Z U A w w2 ((fm ++ f1) ++ (ft ++ f2)) := fun b hm => (hall b hm).2
  exact (hsrc.put (fun b hm => (nbm b (hall b hm).1).1)).put (fun b hm => (nbm b (hall b hm).1).2)

/-- Another term in an operand's place. -/
theorem CkI.repl {Z : Bool} {U : Option Nat} {I : Int → World → Prop} {A : List Nat} {w w2 : World} {M1 M2 N2 n j : Nat} {bx : Array Value} {ls bs : List Tm} {us : List Ty} {s1 : Int} {e e' : Tm} {vs : List Value} {f1 : List Nat}
    (h : CkI Z U I A w M1 M2 N2 n bx (ls ++ e :: bs) us s1 w2) (hK : KeepI U I) (he : ls.length = j) (h1 : e'.At w2 (.agg vs.toArray) f1) (hs : Src Z U A w w2 f1) (hn : ∀ b ∈ f1, Nb w.heap.size M1 N2 b) :
    CkI Z U I A w M1 M2 N2 n bx (ls ++ e' :: bs) us s1 (put w2 M1 (j * 9) vs) := by
  obtain ⟨fm, ft, lm, lt, sr, nb⟩ := h.lm
  have m1 := h.m1
  have m2 := h.m2
  have ne := h.ne
  have nbm : ∀ b, Nb w.heap.size M1 N2 b → b ≠ M1 ∧ True := fun b hb => by
    rcases hb with hb | hb
    · exact ⟨by omega, trivial⟩
    · exact ⟨hb.2.1, trivial⟩
  obtain ⟨fm', hpm, hsub⟩ := lm.repl he h1 (fun hm => (nbm _ (hn M1 hm)).1 rfl)
  have hpt := lt.putne (vs := vs) (o := j * 9) (P := M1) (Ne.symm ne) (fun hm => (nbm _ (nb M1 (by simp [hm]))).1 rfl)
  have hall : ∀ b ∈ fm' ++ ft, Nb w.heap.size M1 N2 b ∧ ((b ∈ A ∨ w.heap.size ≤ b) ∧ Gd Z U w2 b) := fun b hm => by
    have : b ∈ fm ++ ft ∨ b ∈ f1 := by
      rcases List.mem_append.1 hm with hm | hm
      · rcases hsub b hm with h | h
        · exact .inl (by simp [h])
        · exact .inr h
      · exact .inl (by simp [hm])
    rcases this with hm | hm
    · exact ⟨nb b hm, sr b hm⟩
    · exact ⟨hn b hm, hs b hm⟩
  refine ⟨(heap_put_ne (by omega)).trans h.box, (heap_put_ne (by omega)).trans h.zb, (heap_put_ne (by omega)).trans h.tz,
    ⟨_, _, hpm, hpt, ?_, fun b hm => (hall b hm).1⟩, h.bo.put (by omega), hK.put h.st h.ul (by omega), h.ul, m1, m2, ne⟩
  have hsrc : Src Z U A w w2 (fm' ++ ft) := fun b hm => (hall b hm).2
  exact hsrc.put (fun b hm => (nbm b (hall b hm).1).1)

theorem CkI.start {Z : Bool} {U : Option Nat} {I : Int → World → Prop} {A : List Nat} {w wr : World} {M1 M2 n : Nat} {bx C1 C2 : Array Value} {s1 : Int} (hbx : wr.heap[w.heap.size]? = some (.cells bx 35 (0, 0))) (hzb : wr.heap[w.heap.size + 1]? = some (Obj.cells #[.int .i64 0, .string ⟨#[]⟩, .int .i64 0, .int .i64 0, .slice none 0 0, .int .i64 0, .slice none 0 0, .int .i64 0, .slice none 0 0] 35)) (htz : wr.heap[w.heap.size + 1 + 1]? = some (Obj.cells #[.int .i64 0, .slice none 0 0] 32))
    (h1 : wr.heap[M1]? = some (.cells C1 35 (0, 0))) (hC1 : C1.size = n * 9) (h2 : wr.heap[M2]? = some (.cells C2 32 (0, 0))) (hC2 : C2.size = n * 2) (hb : Bo U w wr) (hI : I s1 wr) (hU : UL U w.heap.size) (m1 : w.heap.size + 2 < M1) (m2 : w.heap.size + 2 < M2) (ne : M1 ≠ M2) :
    CkI Z U I A w M1 M2 M2 n bx [] [] s1 wr :=
  ⟨hbx, hzb, htz, ⟨[], [], LaidM.zero h1 hC1, LaidT.zero h2 hC2, Src.nil _ _ _ _ _, fun b hb => by cases hb⟩, hb, hI, hU, m1, m2, ne⟩

/-- From now on only the terms' block is written. -/
theorem CkI.weaken {Z : Bool} {U : Option Nat} {I : Int → World → Prop} {A : List Nat} {w wr : World} {M1 M2 n : Nat} {bx : Array Value} {es : List Tm} {us : List Ty} {s1 : Int} (h : CkI Z U I A w M1 M2 M2 n bx es us s1 wr) : CkI Z U I A w M1 M2 M1 n bx es us s1 wr := by
  obtain ⟨fm, ft, lm, lt, sr, nb⟩ := h.lm
  exact ⟨h.box, h.zb, h.tz, ⟨fm, ft, lm, lt, sr, fun b hb => (nb b hb).imp_right fun h => ⟨h.1, h.2.1, h.2.1⟩⟩, h.bo, h.st, h.ul, h.m1, h.m2, h.ne⟩

theorem LaidM.get {M : Nat} {T : TypeId} {n : Nat} {ds : List Tm} {fp : List Nat} {w : World} (h : LaidM M T n ds fp w) (i : Nat) (hi : i < ds.length) : ∃ k nm num k1 n1 a1 c1 k2 n2 a2 c2 lb n3 a3 c3 f,
    w.cell? ⟨M, i * 9, none⟩ = some (.int .i64 k) ∧ w.cell? ⟨M, i * 9 + 1, none⟩ = some (.string nm) ∧ w.cell? ⟨M, i * 9 + 2, none⟩ = some (.int .i64 num) ∧ w.cell? ⟨M, i * 9 + 3, none⟩ = some (.int .i64 k1) ∧ w.cell? ⟨M, i * 9 + 4, none⟩ = some (.slice a1 n1 c1) ∧
    w.cell? ⟨M, i * 9 + 5, none⟩ = some (.int .i64 k2) ∧ w.cell? ⟨M, i * 9 + 6, none⟩ = some (.slice a2 n2 c2) ∧ w.cell? ⟨M, i * 9 + 7, none⟩ = some (.int .i64 lb) ∧ w.cell? ⟨M, i * 9 + 8, none⟩ = some (.slice a3 n3 c3) ∧
    Tm.At w ds[i] (.agg #[.int .i64 k, .string nm, .int .i64 num, .int .i64 k1, .slice a1 n1 c1, .int .i64 k2, .slice a2 n2 c2, .int .i64 lb, .slice a3 n3 c3]) f ∧ ∀ x ∈ f, x ∈ fp := by
  obtain ⟨C, hC, hs, hn, hl, hm⟩ := h
  obtain ⟨cs, f, hcs, hat, hf⟩ := Tm.atL_get hl i hi
  obtain ⟨k, nm, num, k1, n1, a1, c1, k2, n2, a2, c2, lb, n3, a3, c3, e⟩ := hat.agg
  cases e
  simp only [Nat.zero_add] at hcs
  exact ⟨k, nm, num, k1, n1, a1, c1, k2, n2, a2, c2, lb, n3, a3, c3, f, hcs 0 (by omega), hcs 1 (by omega), hcs 2 (by omega), hcs 3 (by omega), hcs 4 (by omega), hcs 5 (by omega), hcs 6 (by omega), hcs 7 (by omega), hcs 8 (by omega), hat, hf⟩

theorem LaidT.get {M : Nat} {T : TypeId} {n : Nat} {ds : List Ty} {fp : List Nat} {w : World} (h : LaidT M T n ds fp w) (i : Nat) (hi : i < ds.length) : ∃ k m a c f,
    w.cell? ⟨M, i * 2, none⟩ = some (.int .i64 k) ∧ w.cell? ⟨M, i * 2 + 1, none⟩ = some (.slice a m c) ∧ Ty.At w ds[i] (.agg #[.int .i64 k, .slice a m c]) f ∧ ∀ x ∈ f, x ∈ fp := by
  obtain ⟨C, hC, hs, hn, hl, hm⟩ := h
  obtain ⟨v0, v1, f, h0, h1, hat, hf⟩ := Ty.atL_get hl i hi
  obtain ⟨k, m, a, c, e⟩ := hat.agg
  simp only [Value.agg.injEq, Array.mk.injEq, List.cons.injEq, and_true] at e
  obtain ⟨rfl, rfl⟩ := e
  simp only [Nat.zero_add] at h0 h1
  exact ⟨k, m, a, c, f, h0, h1, hat, hf⟩

/-- The blocks' cells, as a walk asks for them. -/
theorem CkI.cells {Z : Bool} {U : Option Nat} {I : Int → World → Prop} {A : List Nat} {w wr : World} {M1 M2 N2 n j : Nat} {bx : Array Value} {es : List Tm} {us : List Ty} {s1 : Int} (h : CkI Z U I A w M1 M2 N2 n bx es us s1 wr) (hj : j < n) :
    (∃ y0 y1 y2 y3 y4 y5 y6 y7 y8, wr.cell? ⟨M1, j * 9, none⟩ = some y0 ∧ wr.cell? ⟨M1, j * 9 + 1, none⟩ = some y1 ∧ wr.cell? ⟨M1, j * 9 + 2, none⟩ = some y2 ∧ wr.cell? ⟨M1, j * 9 + 3, none⟩ = some y3 ∧ wr.cell? ⟨M1, j * 9 + 4, none⟩ = some y4 ∧
      wr.cell? ⟨M1, j * 9 + 5, none⟩ = some y5 ∧ wr.cell? ⟨M1, j * 9 + 6, none⟩ = some y6 ∧ wr.cell? ⟨M1, j * 9 + 7, none⟩ = some y7 ∧ wr.cell? ⟨M1, j * 9 + 8, none⟩ = some y8) ∧
    (∃ z0 z1, wr.cell? ⟨M2, j * 2, none⟩ = some z0 ∧ wr.cell? ⟨M2, j * 2 + 1, none⟩ = some z1) ∧ (∀ o, wr.frozen? ⟨M1, o, none⟩ = false) ∧ (∀ o, wr.frozen? ⟨M2, o, none⟩ = false) ∧ M1 < wr.heap.size ∧ M2 < wr.heap.size := by
  obtain ⟨fm, ft, ⟨C, hC, hs, -⟩, ⟨D, hD, hds, -⟩, -⟩ := h.lm
  refine ⟨⟨C[j * 9]'(by omega), C[j * 9 + 1]'(by omega), C[j * 9 + 2]'(by omega), C[j * 9 + 3]'(by omega), C[j * 9 + 4]'(by omega), C[j * 9 + 5]'(by omega), C[j * 9 + 6]'(by omega), C[j * 9 + 7]'(by omega), C[j * 9 + 8]'(by omega), ?_⟩, ⟨D[j * 2]'(by omega), D[j * 2 + 1]'(by omega), ?_⟩, fun o => frozen_of_block hC, fun o => frozen_of_block hD, lt_of_block hC, lt_of_block hD⟩
  · simp only [cell_of_block hC]
    exact ⟨Array.getElem?_eq_getElem _, Array.getElem?_eq_getElem _, Array.getElem?_eq_getElem _, Array.getElem?_eq_getElem _, Array.getElem?_eq_getElem _, Array.getElem?_eq_getElem _, Array.getElem?_eq_getElem _, Array.getElem?_eq_getElem _, Array.getElem?_eq_getElem _⟩
  · simp only [cell_of_block hD]
    exact ⟨Array.getElem?_eq_getElem _, Array.getElem?_eq_getElem _⟩
end Go.Proofs.YtffmpjcjmffdeaaDoor

/- Nodes known by their places; the work list of the comparison. -/
import Derived.Deep.LoopGhost
import Derived.StillTailTactics
import Derived.Deep.AppendLies
import Derived.Test.YtolhfcpmhhhjpaaSG1
import Derived.Test.YtolhfcpmhhhjpaaSPkA
namespace Go.Proofs.Ytolhfcpmhhhjpaa
open Go.RowKit

theorem Raw.cx {w w' : World} {M b : Nat} (h : Raw w b) (hx : Cx M w w') (hn : b ≠ M) : Raw w' b := by
  obtain ⟨⟨C, T, fz, hC⟩, hf⟩ := h
  exact ⟨⟨C, T, fz, hx.blk hC hn⟩, fun o => hx.frozen (hf o) (lt_of_block hC) hn⟩

theorem Raw.lt {w : World} {b : Nat} (h : Raw w b) : b < w.heap.size := let ⟨⟨_, _, _, hC⟩, _⟩ := h; lt_of_block hC

theorem Raw.ne {w : World} {b M : Nat} {es : Array MapEntry} {c : Nat} (h : Raw w b) (hM : w.heap[M]? = some (.map es c)) : b ≠ M := fun e => by
  obtain ⟨⟨C, T, fz, hC⟩, _⟩ := h
  rw [e, hM] at hC
  cases hC

/-- A type's node at a place, all its memory unfrozen. -/
def NdAt (w : World) (t : Ty) (p : Nat × Nat) : Prop :=
  ∃ k s fp, w.cell? ⟨p.1, p.2, none⟩ = some (.int .i64 k) ∧ w.cell? ⟨p.1, p.2 + 1, none⟩ = some s ∧ t.At w (.agg #[.int .i64 k, s]) fp ∧ Raw w p.1 ∧ ∀ x ∈ fp, Raw w x

theorem NdAt.cx {w w' : World} {M : Nat} {t : Ty} {p : Nat × Nat} {es : Array MapEntry} {c : Nat} (h : NdAt w t p) (hx : Cx M w w') (hM : w.heap[M]? = some (.map es c)) : NdAt w' t p := by
  obtain ⟨k, s, fp, h0, h1, ht, hr, hf⟩ := h
  exact ⟨k, s, fp, hx.cell h0 (hr.ne hM), hx.cell h1 (hr.ne hM), hx.ty ht (fun b hb => (hf b hb).ne hM), hr.cx hx (hr.ne hM), fun x h => (hf x h).cx hx ((hf x h).ne hM)⟩

mutual
/-- A value reads as one tree. -/
theorem Ty.At.det {w : World} : ∀ {t u : Ty} {v : Value} {f g : List Nat}, Ty.At w t v f → Ty.At w u v g → t = u
  | .mk k ts, .mk l us, v, f, g, h, h' => by
    obtain ⟨s, rfl, h⟩ := h
    obtain ⟨s', e, h'⟩ := h'
    simp only [Value.agg.injEq, Array.mk.injEq, List.cons.injEq, Value.int.injEq, and_true, true_and] at e
    obtain ⟨rfl, rfl⟩ := e
    rcases h with ⟨rfl, _, a, cap, rfl⟩ | ⟨b, o, cap, f1, rfl, hp, hc, hm, hl, rfl⟩
    · rcases h' with ⟨rfl, _⟩ | ⟨b', o', cap', g1, e, hp', _⟩
      · rfl
      · simp only [Value.slice.injEq] at e
        omega
    · rcases h' with ⟨rfl, _, a, cap', e⟩ | ⟨b', o', cap', g1, e, hp', hc', hm', hl', rfl⟩
      · simp only [Value.slice.injEq] at e
        omega
      · simp only [Value.slice.injEq, Option.some.injEq, Addr.mk.injEq, and_true] at e
        obtain ⟨⟨rfl, rfl⟩, hn, rfl⟩ := e
        rw [Ty.AtL.det hl hl' hn]
theorem Ty.AtL.det {w : World} : ∀ {ts us : List Ty} {b o : Nat} {f g : List Nat}, Ty.AtL w ts b o f → Ty.AtL w us b o g → ts.length = us.length → ts = us
  | [], [], _, _, _, _, _, _, _ => rfl
  | [], _ :: _, _, _, _, _, _, _, hn => by simp at hn
  | _ :: _, [], _, _, _, _, _, _, hn => by simp at hn
  | t :: ts, u :: us, b, o, f, g, h, h', hn => by
    obtain ⟨v0, v1, f1, f2, c0, c1, ht, hl, rfl⟩ := h
    obtain ⟨u0, u1, g1, g2, d0, d1, hu, hl', rfl⟩ := h'
    rw [c0] at d0
    rw [c1] at d1
    cases d0
    cases d1
    rw [Ty.At.det ht hu, Ty.AtL.det hl hl' (by simpa using hn)]
end

theorem NdAt.det {w : World} {t u : Ty} {p : Nat × Nat} (h : NdAt w t p) (h' : NdAt w u p) : t = u := by
  obtain ⟨k, s, fp, h0, h1, ht, _, _⟩ := h
  obtain ⟨k', s', fp', h0', h1', ht', _, _⟩ := h'
  rw [h0] at h0'
  rw [h1] at h1'
  cases h0'
  cases h1'
  exact ht.det ht'

/-- What a node's cells hold, and where its operands lie. -/
theorem NdAt.open {w : World} {k : Int} {ts : List Ty} {p : Nat × Nat} (h : NdAt w (.mk k ts) p) :
    ∃ a cap, w.cell? ⟨p.1, p.2, none⟩ = some (.int .i64 k) ∧ w.cell? ⟨p.1, p.2 + 1, none⟩ = some (.slice a ts.length cap) ∧ ts.length ≤ cap ∧ ts.length ≤ 9223372036854775807 ∧
      ∀ i, (h : i < ts.length) → ∃ b o, a = some ⟨b, o, none⟩ ∧ NdAt w ts[i] (b, o + i * 2) := by
  obtain ⟨k', s, fp, h0, h1, ht, hr, hf⟩ := h
  obtain ⟨s', e, hs⟩ := Ty.at_mk.1 ht
  simp only [Value.agg.injEq, Array.mk.injEq, List.cons.injEq, Value.int.injEq, and_true, true_and] at e
  obtain ⟨rfl, rfl⟩ := e
  rcases hs with ⟨rfl, _, a, cap, rfl⟩ | ⟨b, o, cap, f1, rfl, hp, hc, hm, hl, rfl⟩
  · exact ⟨a, cap, h0, h1, Nat.zero_le _, by simp, fun i h => by simp at h⟩
  · refine ⟨_, _, h0, h1, hc, hm, fun i hi => ⟨b, o, rfl, ?_⟩⟩
    obtain ⟨v0, v1, f, c0, c1, hat, hsub⟩ := Ty.atL_get hl i hi
    obtain ⟨k1, n1, a1, cap1, hv⟩ := hat.agg
    simp only [Value.agg.injEq, Array.mk.injEq, List.cons.injEq, and_true] at hv
    obtain ⟨rfl, rfl⟩ := hv
    exact ⟨k1, _, f, c0, c1, hat, hf b (by simp), fun x hx => hf x (by simp [hsub x hx])⟩

/-- A pair of nodes to be compared. -/
structure It where
  t : Ty
  u : Ty
  p : Nat × Nat
  q : Nat × Nat

/-- The cells of the work list. -/
def sc : List It → List Value
  | [] => []
  | it :: r => .pointer (some ⟨it.p.1, it.p.2, none⟩) :: .pointer (some ⟨it.q.1, it.q.2, none⟩) :: sc r

theorem sc_append : ∀ a b : List It, sc (a ++ b) = sc a ++ sc b
  | [], _ => rfl
  | it :: r, b => by simp only [List.cons_append, sc, sc_append r b]

theorem sc_len : ∀ a : List It, (sc a).length = a.length * 2
  | [] => rfl
  | it :: r => by simp only [sc, List.length_cons, sc_len r]; omega

/-- How many nodes are still to come. -/
def wt : List It → Nat
  | [] => 0
  | it :: r => it.t.cnt + 1 + wt r

theorem wt_append : ∀ a b : List It, wt (a ++ b) = wt a + wt b
  | [], _ => by simp [wt]
  | it :: r, b => by simp only [List.cons_append, wt, wt_append r b]; omega

theorem wt_len : ∀ a : List It, a.length ≤ wt a
  | [] => Nat.le_refl _
  | it :: r => by have := wt_len r; simp only [wt, List.length_cons]; omega

/-- The operands of a pair of nodes as pairs. -/
def kids (b o b' o' : Nat) : Nat → List Ty → List Ty → List It
  | i, t :: ts, u :: us => ⟨t, u, (b, o + i * 2), (b', o' + i * 2)⟩ :: kids b o b' o' (i + 1) ts us
  | _, _, _ => []

theorem kids_len {b o b' o' : Nat} : ∀ {i : Nat} {ts us : List Ty}, ts.length = us.length → (kids b o b' o' i ts us).length = ts.length
  | _, [], [], _ => rfl
  | _, [], _ :: _, h => by simp at h
  | _, _ :: _, [], h => by simp at h
  | i, t :: ts, u :: us, h => by simp only [kids, List.length_cons, kids_len (i := i + 1) (by simpa using h)]

theorem kids_get {b o b' o' : Nat} : ∀ {i : Nat} {ts us : List Ty} {j : Nat} (_ : ts.length = us.length) (h1 : j < ts.length) (h2 : j < us.length) (h3 : j < (kids b o b' o' i ts us).length), (kids b o b' o' i ts us)[j] = ⟨ts[j], us[j], (b, o + (i + j) * 2), (b', o' + (i + j) * 2)⟩
  | i, t :: ts, u :: us, 0, _, _, _, _ => rfl
  | i, t :: ts, u :: us, j + 1, h, h1, h2, h3 => by
    simp only [kids, List.getElem_cons_succ]
    rw [kids_get (i := i + 1) (by simpa using h) (by simpa using h1) (by simpa using h2)]
    rw [show i + 1 + j = i + (j + 1) by omega]

theorem kids_wt {b o b' o' : Nat} : ∀ {i : Nat} {ts us : List Ty}, ts.length = us.length → wt (kids b o b' o' i ts us) = cntL ts + ts.length
  | _, [], [], _ => rfl
  | _, [], _ :: _, h => by simp at h
  | _, _ :: _, [], h => by simp at h
  | i, t :: ts, u :: us, h => by
    simp only [kids, wt, cntL, List.length_cons, kids_wt (i := i + 1) (ts := ts) (us := us) (by simpa using h)]
    omega

/-- The comparison so far: D has been compared, the list is open, the keys have been noted. -/
structure Inv (W : World) (t0 u0 : Ty) (D : List (Ty × Ty)) (its : List It) (es : List MapEntry) : Prop where
  rd : ∀ it ∈ its, NdAt W it.t it.p ∧ NdAt W it.u it.q
  key : ∀ e ∈ es, ∃ p q t u, e.key = kv p q ∧ e.val = .bool true ∧ NdAt W t p ∧ NdAt W u q ∧ (t = u ∨ (t, u) ∈ D)
  closed : ∀ k ts l us, (Ty.mk k ts, Ty.mk l us) ∈ D → k = l ∧ ts.length = us.length ∧ ∀ i (h : i < ts.length) (h' : i < us.length), ts[i] = us[i] ∨ (ts[i], us[i]) ∈ D ∨ ∃ it ∈ its, it.t = ts[i] ∧ it.u = us[i]
  sound : t0 = u0 → ∀ it ∈ its, it.t = it.u
  root : t0 = u0 ∨ (t0, u0) ∈ D ∨ ∃ it ∈ its, it.t = t0 ∧ it.u = u0

theorem Inv.pop {W : World} {t0 u0 : Ty} {D : List (Ty × Ty)} {its : List It} {it : It} {es : List MapEntry} (h : Inv W t0 u0 D (its ++ [it]) es) (hs : it.t = it.u ∨ (it.t, it.u) ∈ D) : Inv W t0 u0 D its es := by
  refine ⟨fun x hx => h.rd x (by simp [hx]), h.key, fun k ts l us hm => ?_, fun e x hx => h.sound e x (by simp [hx]), ?_⟩
  · obtain ⟨h1, h2, h3⟩ := h.closed k ts l us hm
    refine ⟨h1, h2, fun i hi hi' => ?_⟩
    rcases h3 i hi hi' with h | h | ⟨x, hx, e1, e2⟩
    · exact .inl h
    · exact .inr (.inl h)
    · rcases List.mem_append.1 hx with hx | hx
      · exact .inr (.inr ⟨x, hx, e1, e2⟩)
      · obtain rfl : x = it := by simpa using hx
        rcases hs with hs | hs
        · exact .inl (by rw [← e1, ← e2, hs])
        · exact .inr (.inl (by rw [← e1, ← e2]; exact hs))
  · rcases h.root with h | h | ⟨x, hx, e1, e2⟩
    · exact .inl h
    · exact .inr (.inl h)
    · rcases List.mem_append.1 hx with hx | hx
      · exact .inr (.inr ⟨x, hx, e1, e2⟩)
      · obtain rfl : x = it := by simpa using hx
        rcases hs with hs | hs
        · exact .inl (by rw [← e1, ← e2, hs])
        · exact .inr (.inl (by rw [← e1, ← e2]; exact hs))

/-- A pair that is alike: its operands come onto the list, and it may have been noted. -/
theorem Inv.push {W : World} {t0 u0 : Ty} {D : List (Ty × Ty)} {its ks : List It} {k : Int} {ts us : List Ty} {p q : Nat × Nat} {es es' : List MapEntry} (h : Inv W t0 u0 D (its ++ [⟨.mk k ts, .mk k us, p, q⟩]) es) (hl : ts.length = us.length)
    (hks : ∀ it ∈ ks, NdAt W it.t it.p ∧ NdAt W it.u it.q) (hke : ts = us → ∀ it ∈ ks, it.t = it.u) (hkk : ∀ i (h : i < ts.length) (h' : i < us.length), ∃ it ∈ ks, it.t = ts[i] ∧ it.u = us[i])
    (hes : ∀ e ∈ es', (∃ e0 ∈ es, e.key = e0.key ∧ e.val = e0.val) ∨ e.key = kv p q ∧ e.val = .bool true) : Inv W t0 u0 ((.mk k ts, .mk k us) :: D) (its ++ ks) es' := by
  have hit := h.rd ⟨.mk k ts, .mk k us, p, q⟩ (by simp)
  have mv : ∀ {a b : Ty}, (∃ it ∈ its ++ [(⟨.mk k ts, .mk k us, p, q⟩ : It)], it.t = a ∧ it.u = b) → (a, b) ∈ (Ty.mk k ts, Ty.mk k us) :: D ∨ ∃ it ∈ its ++ ks, it.t = a ∧ it.u = b := by
    rintro a b ⟨x, hx, e1, e2⟩
    rcases List.mem_append.1 hx with hx | hx
    · exact .inr ⟨x, by simp [hx], e1, e2⟩
    · obtain rfl : x = _ := by simpa using hx
      exact .inl (by simp [← e1, ← e2])
  refine ⟨fun x hx => ?_, fun e he => ?_, fun k' ts' l us' hm => ?_, fun e x hx => ?_, ?_⟩
  · rcases List.mem_append.1 hx with hx | hx
    · exact h.rd x (by simp [hx])
    · exact hks x hx
  · rcases hes e he with ⟨e0, he0, hk, hv⟩ | ⟨hk, hv⟩
    · obtain ⟨p', q', t, u, h1, h2, h3, h4, h5⟩ := h.key e0 he0
      refine ⟨p', q', t, u, hk.trans h1, hv.trans h2, h3, h4, ?_⟩
      rcases h5 with h5 | h5
      · exact .inl h5
      · exact .inr (by simp [h5])
    · exact ⟨p, q, _, _, hk, hv, hit.1, hit.2, .inr (by simp)⟩
  · rcases List.mem_cons.1 hm with hm | hm
    · simp only [Prod.mk.injEq, Ty.mk.injEq] at hm
      obtain ⟨⟨rfl, rfl⟩, rfl, rfl⟩ := hm
      refine ⟨rfl, hl, fun i hi hi' => ?_⟩
      obtain ⟨x, hx, e⟩ := hkk i hi hi'
      exact .inr (.inr ⟨x, by simp [hx], e⟩)
    · obtain ⟨h1, h2, h3⟩ := h.closed k' ts' l us' hm
      refine ⟨h1, h2, fun i hi hi' => ?_⟩
      rcases h3 i hi hi' with g | g | g
      · exact .inl g
      · exact .inr (.inl (by simp [g]))
      · exact .inr (mv g)
  · rcases List.mem_append.1 hx with hx | hx
    · exact h.sound e x (by simp [hx])
    · have := h.sound e ⟨.mk k ts, .mk k us, p, q⟩ (by simp)
      simp only [Ty.mk.injEq, true_and] at this
      exact hke this x hx
  · rcases h.root with g | g | g
    · exact .inl g
    · exact .inr (.inl (by simp [g]))
    · exact .inr (mv g)

theorem Inv.same {W : World} {t0 u0 : Ty} {D : List (Ty × Ty)} {es : List MapEntry} (h : Inv W t0 u0 D [] es) : ∀ t u, (t, u) ∈ D → t = u := fun t =>
  Ty.ind (P := fun t => ∀ u, (t, u) ∈ D → t = u) (fun k ts ih u hm => by
    obtain ⟨l, us⟩ := u
    obtain ⟨rfl, hl, h3⟩ := h.closed k ts l us hm
    have : ts = us := List.ext_getElem hl fun i hi hi' => by
      rcases h3 i hi hi' with g | g | ⟨x, hx, _⟩
      · exact g
      · exact ih _ (List.getElem_mem hi) _ g
      · cases hx
    rw [this]) t

/-- All that has been noted is alike. -/
def GoodK (W : World) (es : List MapEntry) : Prop := ∀ e ∈ es, ∃ p q t, e.key = kv p q ∧ e.val = .bool true ∧ NdAt W t p ∧ NdAt W t q

theorem Inv.done {W : World} {t0 u0 : Ty} {D : List (Ty × Ty)} {es : List MapEntry} (h : Inv W t0 u0 D [] es) : t0 = u0 ∧ GoodK W es := by
  refine ⟨?_, fun e he => ?_⟩
  · rcases h.root with g | g | ⟨x, hx, _⟩
    · exact g
    · exact h.same _ _ g
    · cases hx
  · obtain ⟨p, q, t, u, h1, h2, h3, h4, h5⟩ := h.key e he
    have : t = u := h5.elim id (h.same t u)
    subst this
    exact ⟨p, q, t, h1, h2, h3, h4⟩

theorem Inv.start {W : World} {t u : Ty} {p q : Nat × Nat} {es : List MapEntry} (ht : NdAt W t p) (hu : NdAt W u q) (hg : GoodK W es) : Inv W t u [] [⟨t, u, p, q⟩] es := by
  have one : ∀ it ∈ [(⟨t, u, p, q⟩ : It)], it = ⟨t, u, p, q⟩ := fun it hi => by simpa using hi
  refine ⟨fun it hi => ?_, fun e he => ?_, (fun _ _ _ _ h => by cases h), fun e it hi => ?_, .inr (.inr ⟨⟨t, u, p, q⟩, by simp, rfl, rfl⟩)⟩
  · rw [one it hi]
    exact ⟨ht, hu⟩
  · obtain ⟨p, q, t, h1, h2, h3, h4⟩ := hg e he
    exact ⟨p, q, t, t, h1, h2, h3, h4, .inl rfl⟩
  · rw [one it hi]
    exact e

theorem Inv.kp {W wr : World} {t0 u0 : Ty} {D : List (Ty × Ty)} {its : List It} {es : List MapEntry} {M : Nat} {es0 : Array MapEntry} {c0 : Nat} (h : Inv W t0 u0 D its es) (hx : Cx M W wr) (hM : W.heap[M]? = some (.map es0 c0)) : KP wr es := fun e he => by
  obtain ⟨p, q, t, u, h1, h2, h3, h4, _⟩ := h.key e he
  obtain ⟨_, _, _, _, _, _, r1, _⟩ := h3.cx hx hM
  obtain ⟨_, _, _, _, _, _, r2, _⟩ := h4.cx hx hM
  exact ⟨p, q, h1, h2, r1, r2⟩

/-- The last pair taken off the list. -/
theorem row_pop {w : World} {B g cap : Nat} {its : List It} {it : It} (h : w.ownsRow B 97 2 (.slice (some ⟨g, 0, none⟩) (its.length + 1) cap) (its.length + 1) (sc (its ++ [it]))) :
    w.ownsRow B 97 2 (.slice (some ⟨g, 0, none⟩) its.length cap) its.length (sc its) ∧ w.cell? ⟨g, its.length * 2, none⟩ = some (.pointer (some ⟨it.p.1, it.p.2, none⟩)) ∧ w.cell? ⟨g, its.length * 2 + 1, none⟩ = some (.pointer (some ⟨it.q.1, it.q.2, none⟩)) := by
  have hc := h.cells (g := g) rfl
  obtain ⟨h1, h2 | ⟨g', cap', cur, hv, hb, hg, hn, hm, hs, ht⟩⟩ := h
  · exact absurd h2.2 (by omega)
  · simp only [Value.slice.injEq, Option.some.injEq, Addr.mk.injEq, and_true, true_and] at hv
    obtain ⟨rfl, rfl⟩ := hv
    rw [sc_append] at ht hc
    refine ⟨⟨sc_len _, .inr ⟨g, cap, cur, rfl, hb, hg, by omega, hm, hs, ?_⟩⟩, ?_, ?_⟩
    · have : cur.toList.take (its.length * 2) = (cur.toList.take ((its.length + 1) * 2)).take (its.length * 2) := by
        rw [List.take_take]
        congr 1
        omega
      rw [this, ht, List.take_append_of_le_length (by rw [sc_len]; omega), List.take_of_length_le (by rw [sc_len]; omega)]
    · have := hc (its.length * 2) (.pointer (some ⟨it.p.1, it.p.2, none⟩)) (by rw [List.getElem?_append_right (by rw [sc_len]; omega), sc_len]; simp [sc])
      simpa [Addr.add_lit] using this
    · have := hc (its.length * 2 + 1) (.pointer (some ⟨it.q.1, it.q.2, none⟩)) (by rw [List.getElem?_append_right (by rw [sc_len]; omega), sc_len]; simp [sc, show its.length * 2 + 1 - its.length * 2 = 1 by omega])
      simpa [Addr.add_lit] using this

theorem Cx.grown {U : Nat} {a b c : World} {row : Option Nat} (h : Cx U a b) (hg : b.grownBy c row) (hrow : ∀ g, row = some g → a.heap.size ≤ g) : Cx U a c :=
  ⟨hg.os.trans h.os, hg.tape.trans h.tape, hg.output.trans h.output, Nat.le_trans h.size hg.size, fun i hi hn =>
    (hg.block i (Nat.lt_of_lt_of_le hi h.size) (fun e => by have := hrow i e.symm; omega)).trans (h.block i hi hn)⟩

/-- The round of the inner loop: one pair more. -/
theorem sc_take {x1 y1 x2 y2 : Nat} {its : List It} {ts us : List Ty} {j : Nat} (hl : ts.length = us.length) (hj : j < ts.length) :
    sc (its ++ (kids x1 y1 x2 y2 0 ts us).take (j + 1)) = sc (its ++ (kids x1 y1 x2 y2 0 ts us).take j) ++ [.pointer (some ⟨x1, y1 + j * 2, none⟩), .pointer (some ⟨x2, y2 + j * 2, none⟩)] := by
  have hk : j < (kids x1 y1 x2 y2 0 ts us).length := by rw [kids_len hl]; exact hj
  rw [List.take_succ_eq_append_getElem hk, ← List.append_assoc, sc_append, kids_get hl hj (by omega) hk]
  simp [sc]

end Go.Proofs.Ytolhfcpmhhhjpaa

/- Nodes of types below a bound, known by their places; the comparison so far. -/
import Derived.Test.YtffmpjcjmffdeaaDoorVSam
namespace Go.Proofs.YtffmpjcjmffdeaaDoor
open Go.RowKit

def RawB (B : Nat) (w : World) (b : Nat) : Prop := Raw w b ∧ b < B
theorem RawB.cx {B : Nat} {w w' : World} {M b : Nat} (h : RawB B w b) (hx : Cx M w w') (hn : b ≠ M) : RawB B w' b := ⟨h.1.cx hx hn, h.2⟩
theorem RawB.lt {B : Nat} {w : World} {b : Nat} (h : RawB B w b) : b < w.heap.size := h.1.lt
theorem RawB.ne {B : Nat} {w : World} {b M : Nat} {es : Array MapEntry} {c : Nat} (h : RawB B w b) (hM : w.heap[M]? = some (.map es c)) : b ≠ M := h.1.ne hM

/-- A type's node at a place, all its memory unfrozen. -/
def NdAtBm (B : Nat) (w : World) (t : Ty) (p : Nat × Nat) : Prop :=
  ∃ k s fp, w.cell? ⟨p.1, p.2, none⟩ = some (.int .i64 k) ∧ w.cell? ⟨p.1, p.2 + 1, none⟩ = some s ∧ t.At w (.agg #[.int .i64 k, s]) fp ∧ RawB B w p.1 ∧ ∀ x ∈ fp, RawB B w x

theorem NdAtBm.cx {B : Nat} {w w' : World} {M : Nat} {t : Ty} {p : Nat × Nat} {es : Array MapEntry} {c : Nat} (h : NdAtBm B w t p) (hx : Cx M w w') (hM : w.heap[M]? = some (.map es c)) : NdAtBm B w' t p := by
  obtain ⟨k, s, fp, h0, h1, ht, hr, hf⟩ := h
  exact ⟨k, s, fp, hx.cell h0 (hr.ne hM), hx.cell h1 (hr.ne hM), hx.ty ht (fun b hb => (hf b hb).ne hM), hr.cx hx (hr.ne hM), fun x h => (hf x h).cx hx ((hf x h).ne hM)⟩

theorem NdAtBm.det {B : Nat} {w : World} {t u : Ty} {p : Nat × Nat} (h : NdAtBm B w t p) (h' : NdAtBm B w u p) : t = u := by
  obtain ⟨k, s, fp, h0, h1, ht, _, _⟩ := h
  obtain ⟨k', s', fp', h0', h1', ht', _, _⟩ := h'
  rw [h0] at h0'
  rw [h1] at h1'
  cases h0'
  cases h1'
  exact ht.det ht'

/-- What a node's cells hold, and where its operands lie. -/
theorem NdAtBm.open {B : Nat} {w : World} {k : Int} {ts : List Ty} {p : Nat × Nat} (h : NdAtBm B w (.mk k ts) p) :
    ∃ a cap, w.cell? ⟨p.1, p.2, none⟩ = some (.int .i64 k) ∧ w.cell? ⟨p.1, p.2 + 1, none⟩ = some (.slice a ts.length cap) ∧ ts.length ≤ cap ∧ ts.length ≤ 9223372036854775807 ∧
      ∀ i, (h : i < ts.length) → ∃ b o, a = some ⟨b, o, none⟩ ∧ NdAtBm B w ts[i] (b, o + i * 2) := by
  obtain ⟨k', s, fp, h0, h1, ht, hr, hf⟩ := h
  obtain ⟨s', e, hs⟩ := Ty.at_mk.1 ht
  simp only [Value.agg.injEq, Array.mk.injEq, List.cons.injEq, Value.int.injEq, and_true, true_and] at e
  obtain ⟨rfl, rfl⟩ := e
  rcases hs with ⟨rfl, _, a, cap, rfl⟩ | ⟨b, o, cap, f1, rfl, hp, hc, hm, hl, rfl⟩
  · exact ⟨a, cap, h0, h1, Nat.zero_le _, by simp, fun i h => by simp at h⟩
  · refine ⟨_, _, h0, h1, hc, hm, fun i hi => ⟨b, o, rfl, ?_⟩⟩
    obtain ⟨v0, v1, f, c0, c1, hat, hsub⟩ := Ty.atL_get hl i hi
    obtain ⟨k1, n1, a1, cap1, hv⟩ := hat.agg
    simp only [Value.agg.injEq, Array.mk.injEq, List.cons.injEq, and_true] at hv
    obtain ⟨rfl, rfl⟩ := hv
    exact ⟨k1, _, f, c0, c1, hat, hf b (by simp), fun x hx => hf x (by simp [hsub x hx])⟩

/-- The comparison so far: D has been compared, the list is open, the keys have been noted. -/
structure InvBm (B : Nat) (W : World) (t0 u0 : Ty) (D : List (Ty × Ty)) (its : List It) (es : List MapEntry) : Prop where
  rd : ∀ it ∈ its, NdAtBm B W it.t it.p ∧ NdAtBm B W it.u it.q
  key : ∀ e ∈ es, ∃ p q t u, e.key = kv p q ∧ e.val = .bool true ∧ NdAtBm B W t p ∧ NdAtBm B W u q ∧ (t = u ∨ (t, u) ∈ D)
  closed : ∀ k ts l us, (Ty.mk k ts, Ty.mk l us) ∈ D → k = l ∧ ts.length = us.length ∧ ∀ i (h : i < ts.length) (h' : i < us.length), ts[i] = us[i] ∨ (ts[i], us[i]) ∈ D ∨ ∃ it ∈ its, it.t = ts[i] ∧ it.u = us[i]
  sound : t0 = u0 → ∀ it ∈ its, it.t = it.u
  root : t0 = u0 ∨ (t0, u0) ∈ D ∨ ∃ it ∈ its, it.t = t0 ∧ it.u = u0

theorem InvBm.pop {B : Nat} {W : World} {t0 u0 : Ty} {D : List (Ty × Ty)} {its : List It} {it : It} {es : List MapEntry} (h : InvBm B W t0 u0 D (its ++ [it]) es) (hs : it.t = it.u ∨ (it.t, it.u) ∈ D) : InvBm B W t0 u0 D its es := by
  refine ⟨fun x hx => h.rd x (by simp [hx]), h.key, fun k ts l us hm => ?_, fun e x hx => h.sound e x (by simp [hx]), ?_⟩
  · obtain ⟨h1, h2, h3⟩ := h.closed k ts l us hm
    refine ⟨h1, h2, fun i hi hi' => ?_⟩
    rcases h3 i hi hi' with h | h | ⟨x, hx, e1, e2⟩
    · exact .inl h
    · exact .inr (.inl h)
    · rcases List.mem_append.1 hx with hx | hx
      · exact .inr (.inr ⟨x, hx, e1, e2⟩)
      · obtain rfl : x = it := by simpa using hx
        rcases hs with hs | hs
        · exact .inl (by rw [← e1, ← e2, hs])
        · exact .inr (.inl (by rw [← e1, ← e2]; exact hs))
  · rcases h.root with h | h | ⟨x, hx, e1, e2⟩
    · exact .inl h
    · exact .inr (.inl h)
    · rcases List.mem_append.1 hx with hx | hx
      · exact .inr (.inr ⟨x, hx, e1, e2⟩)
      · obtain rfl : x = it := by simpa using hx
        rcases hs with hs | hs
        · exact .inl (by rw [← e1, ← e2, hs])
        · exact .inr (.inl (by rw [← e1, ← e2]; exact hs))

/-- A pair that is alike: its operands come onto the list, and it may have been noted. -/
theorem InvBm.push {B : Nat} {W : World} {t0 u0 : Ty} {D : List (Ty × Ty)} {its ks : List It} {k : Int} {ts us : List Ty} {p q : Nat × Nat} {es es' : List MapEntry} (h : InvBm B W t0 u0 D (its ++ [⟨.mk k ts, .mk k us, p, q⟩]) es) (hl : ts.length = us.length)
    (hks : ∀ it ∈ ks, NdAtBm B W it.t it.p ∧ NdAtBm B W it.u it.q) (hke : ts = us → ∀ it ∈ ks, it.t = it.u) (hkk : ∀ i (h : i < ts.length) (h' : i < us.length), ∃ it ∈ ks, it.t = ts[i] ∧ it.u = us[i])
    (hes : ∀ e ∈ es', (∃ e0 ∈ es, e.key = e0.key ∧ e.val = e0.val) ∨ e.key = kv p q ∧ e.val = .bool true) : InvBm B W t0 u0 ((.mk k ts, .mk k us) :: D) (its ++ ks) es' := by
  have hit := h.rd ⟨.mk k ts, .mk k us, p, q⟩ (by simp)
  have mv : ∀ {a b : Ty}, (∃ it ∈ its ++ [(⟨.mk k ts, .mk k us, p, q⟩ : It)], it.t = a ∧ it.u = b) → (a, b) ∈ (Ty.mk k ts, Ty.mk k us) :: D ∨ ∃ it ∈ its ++ ks, it.t = a ∧ it.u = b := by
    rintro a b ⟨x, hx, e1, e2⟩
    rcases List.mem_append.1 hx with hx | hx
    · exact .inr ⟨x, by simp [hx], e1, e2⟩
    · obtain rfl : x = _ := by simpa using hx
      exact .inl (by simp [← e1, ← e2])
  refine ⟨fun x hx => ?_, fun e he => ?_, fun k' ts' l us' hm => ?_, fun e x hx => ?_, ?_⟩
  · rcases List.mem_append.1 hx with hx | hx
    · exact h.rd x (by simp [hx])
    · exact hks x hx
  · rcases hes e he with ⟨e0, he0, hk, hv⟩ | ⟨hk, hv⟩
    · obtain ⟨p', q', t, u, h1, h2, h3, h4, h5⟩ := h.key e0 he0
      refine ⟨p', q', t, u, hk.trans h1, hv.trans h2, h3, h4, ?_⟩
      rcases h5 with h5 | h5
      · exact .inl h5
      · exact .inr (by simp [h5])
    · exact ⟨p, q, _, _, hk, hv, hit.1, hit.2, .inr (by simp)⟩
  · rcases List.mem_cons.1 hm with hm | hm
    · simp only [Prod.mk.injEq, Ty.mk.injEq] at hm
      obtain ⟨⟨rfl, rfl⟩, rfl, rfl⟩ := hm
      refine ⟨rfl, hl, fun i hi hi' => ?_⟩
      obtain ⟨x, hx, e⟩ := hkk i hi hi'
      exact .inr (.inr ⟨x, by simp [hx], e⟩)
    · obtain ⟨h1, h2, h3⟩ := h.closed k' ts' l us' hm
      refine ⟨h1, h2, fun i hi hi' => ?_⟩
      rcases h3 i hi hi' with g | g | g
      · exact .inl g
      · exact .inr (.inl (by simp [g]))
      · exact .inr (mv g)
  · rcases List.mem_append.1 hx with hx | hx
    · exact h.sound e x (by simp [hx])
    · have := h.sound e ⟨.mk k ts, .mk k us, p, q⟩ (by simp)
      simp only [Ty.mk.injEq, true_and] at this
      exact hke this x hx
  · rcases h.root with g | g | g
    · exact .inl g
    · exact .inr (.inl (by simp [g]))
    · exact .inr (mv g)

theorem InvBm.same {B : Nat} {W : World} {t0 u0 : Ty} {D : List (Ty × Ty)} {es : List MapEntry} (h : InvBm B W t0 u0 D [] es) : ∀ t u, (t, u) ∈ D → t = u := fun t =>
  Ty.ind (P := fun t => ∀ u, (t, u) ∈ D → t = u) (fun k ts ih u hm => by
    obtain ⟨l, us⟩ := u
    obtain ⟨rfl, hl, h3⟩ := h.closed k ts l us hm
    have : ts = us := List.ext_getElem hl fun i hi hi' => by
      rcases h3 i hi hi' with g | g | ⟨x, hx, _⟩
      · exact g
      · exact ih _ (List.getElem_mem hi) _ g
      · cases hx
    rw [this]) t

/-- All that has been noted is alike. -/
def GoodKBm (B : Nat) (W : World) (es : List MapEntry) : Prop := ∀ e ∈ es, ∃ p q t, e.key = kv p q ∧ e.val = .bool true ∧ NdAtBm B W t p ∧ NdAtBm B W t q

theorem InvBm.done {B : Nat} {W : World} {t0 u0 : Ty} {D : List (Ty × Ty)} {es : List MapEntry} (h : InvBm B W t0 u0 D [] es) : t0 = u0 ∧ GoodKBm B W es := by
  refine ⟨?_, fun e he => ?_⟩
  · rcases h.root with g | g | ⟨x, hx, _⟩
    · exact g
    · exact h.same _ _ g
    · cases hx
  · obtain ⟨p, q, t, u, h1, h2, h3, h4, h5⟩ := h.key e he
    have : t = u := h5.elim id (h.same t u)
    subst this
    exact ⟨p, q, t, h1, h2, h3, h4⟩

theorem InvBm.start {B : Nat} {W : World} {t u : Ty} {p q : Nat × Nat} {es : List MapEntry} (ht : NdAtBm B W t p) (hu : NdAtBm B W u q) (hg : GoodKBm B W es) : InvBm B W t u [] [⟨t, u, p, q⟩] es := by
  have one : ∀ it ∈ [(⟨t, u, p, q⟩ : It)], it = ⟨t, u, p, q⟩ := fun it hi => by simpa using hi
  refine ⟨fun it hi => ?_, fun e he => ?_, (fun _ _ _ _ h => by cases h), fun e it hi => ?_, .inr (.inr ⟨⟨t, u, p, q⟩, by simp, rfl, rfl⟩)⟩
  · rw [one it hi]
    exact ⟨ht, hu⟩
  · obtain ⟨p, q, t, h1, h2, h3, h4⟩ := hg e he
    exact ⟨p, q, t, t, h1, h2, h3, h4, .inl rfl⟩
  · rw [one it hi]
    exact e

theorem InvBm.kp {B : Nat} {W wr : World} {t0 u0 : Ty} {D : List (Ty × Ty)} {its : List It} {es : List MapEntry} {M : Nat} {es0 : Array MapEntry} {c0 : Nat} (h : InvBm B W t0 u0 D its es) (hx : Cx M W wr) (hM : W.heap[M]? = some (.map es0 c0)) : KP wr es := fun e he => by
  obtain ⟨p, q, t, u, h1, h2, h3, h4, _⟩ := h.key e he
  obtain ⟨_, _, _, _, _, _, r1, _⟩ := h3.cx hx hM
  obtain ⟨_, _, _, _, _, _, r2, _⟩ := h4.cx hx hM
  exact ⟨p, q, h1, h2, r1.1, r2.1⟩

end Go.Proofs.YtffmpjcjmffdeaaDoor

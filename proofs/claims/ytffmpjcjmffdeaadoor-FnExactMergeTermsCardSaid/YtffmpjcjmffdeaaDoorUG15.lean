/- Nodes of types below a bound, known by their places; the comparison so far. TypeSame, of the program. Precision, depth and the number of unknowns: plainly. Meets, plainly: static types, and the number of unknowns. Meets absorb joins, plainly. The order of types, plainly: what the drawn laws on meets, joins, ground types, static types and the relations of chapter 8 want. Typing, plainly: the types of terms, the rules of the program's check, and that both agree. The program's check by consistency gives the document's types, and these are valid. -/
import Derived.Test.YtffmpjcjmffdeaaDoorUSam
import Derived.Laws.EntriesVeiled
import Derived.Test.YtffmpjcjmffdeaaDoorUPkA
import Derived.Test.YtffmpjcjmffdeaaDoorUG1
import Derived.Test.YtffmpjcjmffdeaaDoorUG13
import Derived.Test.YtffmpjcjmffdeaaDoorUG6
namespace Go.Proofs.YtffmpjcjmffdeaaDoor
open Go.RowKit

def RawB (B : Nat) (w : World) (b : Nat) : Prop := Raw w b ∧ b < B
theorem RawB.cx {B : Nat} {w w' : World} {M b : Nat} (h : RawB B w b) (hx : Cx M w w') (hn : b ≠ M) : RawB B w' b := ⟨h.1.cx hx hn, h.2⟩
theorem RawB.lt {B : Nat} {w : World} {b : Nat} (h : RawB B w b) : b < w.heap.size := h.1.lt
theorem RawB.ne {B : Nat} {w : World} {b M : Nat} {es : Array MapEntry} {c : Nat} (h : RawB B w b) (hM : w.heap[M]? = some (.map es c)) : b ≠ M := h.1.ne hM

/-- A type's node at a place, all its memory unfrozen. -/
def NdAtBm (B : Nat) (w : World) (t : Ty) (p : Nat × Nat) : Prop :=
  ∃ k s fp, w.cell? ⟨p.1, p.2, none⟩ = some (.int .i64 k) ∧ w.cell? ⟨p.1, p.2 + 1, none⟩ = some s ∧ t.At w (.agg #[.int .i64 k, s]) fp ∧ RawB B w p.1 ∧ ∀ x ∈ fp, RawB B w x

theorem NdAtBm.cx {B : Nat} {w w' : World} {M : Nat} {t : Ty} {p : Nat × Nat} {es : Array MapEntry} {c : Nat} (h : NdAtBm B w t p) (hx : Cx M w w') (hM : w.heap[M]? = some (.map es c)) : NdAtBm B w' t p := by
  obtain ⟨k, s, fp, h0, h1, ht, hr, hf⟩ := h
  exact ⟨k, s, fp, hx.cell h0 (hr.ne hM), hx.cell h1 (hr.ne hM), hx.ty ht (fun b hb => (hf b hb).ne hM), hr.cx hx (hr.ne hM), fun x h => (hf x h).cx hx ((hf x h).ne hM)⟩

theorem NdAtBm.det {B : Nat} {w : World} {t u : Ty} {p : Nat × Nat} (h : NdAtBm B w t p) (h' : NdAtBm B w u p) : t = u := by
  obtain ⟨k, s, fp, h0, h1, ht, _, _⟩ := h
  obtain ⟨k', s', fp', h0', h1', ht', _, _⟩ := h'
  rw [h0] at h0'
  rw [h1] at h1'
  cases h0'
  cases h1'
  exact ht.det ht'

/-- What a node's cells hold, and where its operands lie. -/
theorem NdAtBm.open {B : Nat} {w : World} {k : Int} {ts : List Ty} {p : Nat × Nat} (h : NdAtBm B w (.mk k ts) p) :
    ∃ a cap, w.cell? ⟨p.1, p.2, none⟩ = some (.int .i64 k) ∧ w.cell? ⟨p.1, p.2 + 1, none⟩ = some (.slice a ts.length cap) ∧ ts.length ≤ cap ∧ ts.length ≤ 9223372036854775807 ∧
      ∀ i, (h : i < ts.length) → ∃ b o, a = some ⟨b, o, none⟩ ∧ NdAtBm B w ts[i] (b, o + i * 2) := by
  obtain ⟨k', s, fp, h0, h1, ht, hr, hf⟩ := h
  obtain ⟨s', e, hs⟩ := Ty.at_mk.1 ht
  simp only [Value.agg.injEq, Array.mk.injEq, List.cons.injEq, Value.int.injEq, and_true, true_and] at e
  obtain ⟨rfl, rfl⟩ := e
  rcases hs with ⟨rfl, _, a, cap, rfl⟩ | ⟨b, o, cap, f1, rfl, hp, hc, hm, hl, rfl⟩
  · exact ⟨a, cap, h0, h1, Nat.zero_le _, by simp, fun i h => by simp at h⟩
  · refine ⟨_, _, h0, h1, hc, hm, fun i hi => ⟨b, o, rfl, ?_⟩⟩
    obtain ⟨v0, v1, f, c0, c1, hat, hsub⟩ := Ty.atL_get hl i hi
    obtain ⟨k1, n1, a1, cap1, hv⟩ := hat.agg
    simp only [Value.agg.injEq, Array.mk.injEq, List.cons.injEq, and_true] at hv
    obtain ⟨rfl, rfl⟩ := hv
    exact ⟨k1, _, f, c0, c1, hat, hf b (by simp), fun x hx => hf x (by simp [hsub x hx])⟩

/-- The comparison so far: D has been compared, the list is open, the keys have been noted. -/
structure InvBm (B : Nat) (W : World) (t0 u0 : Ty) (D : List (Ty × Ty)) (its : List It) (es : List MapEntry) : Prop where
  rd : ∀ it ∈ its, NdAtBm B W it.t it.p ∧ NdAtBm B W it.u it.q
  key : ∀ e ∈ es, ∃ p q t u, e.key = kv p q ∧ e.val = .bool true ∧ NdAtBm B W t p ∧ NdAtBm B W u q ∧ (t = u ∨ (t, u) ∈ D)
  closed : ∀ k ts l us, (Ty.mk k ts, Ty.mk l us) ∈ D → k = l ∧ ts.length = us.length ∧ ∀ i (h : i < ts.length) (h' : i < us.length), ts[i] = us[i] ∨ (ts[i], us[i]) ∈ D ∨ ∃ it ∈ its, it.t = ts[i] ∧ it.u = us[i]
  sound : t0 = u0 → ∀ it ∈ its, it.t = it.u
  root : t0 = u0 ∨ (t0, u0) ∈ D ∨ ∃ it ∈ its, it.t = t0 ∧ it.u = u0

theorem InvBm.pop {B : Nat} {W : World} {t0 u0 : Ty} {D : List (Ty × Ty)} {its : List It} {it : It} {es : List MapEntry} (h : InvBm B W t0 u0 D (its ++ [it]) es) (hs : it.t = it.u ∨ (it.t, it.u) ∈ D) : InvBm B W t0 u0 D its es := by
  refine ⟨fun x hx => h.rd x (by simp [hx]), h.key, fun k ts l us hm => ?_, fun e x hx => h.sound e x (by simp [hx]), ?_⟩
  · obtain ⟨h1, h2, h3⟩ := h.closed k ts l us hm
    refine ⟨h1, h2, fun i hi hi' => ?_⟩
    rcases h3 i hi hi' with h | h | ⟨x, hx, e1, e2⟩
    · exact .inl h
    · exact .inr (.inl h)
    · rcases List.mem_append.1 hx with hx | hx
      · exact .inr (.inr ⟨x, hx, e1, e2⟩)
      · obtain rfl : x = it := by simpa using hx
        rcases hs with hs | hs
        · exact .inl (by rw [← e1, ← e2, hs])
        · exact .inr (.inl (by rw [← e1, ← e2]; exact hs))
  · rcases h.root with h | h | ⟨x, hx, e1, e2⟩
    · exact .inl h
    · exact .inr (.inl h)
    · rcases List.mem_append.1 hx with hx | hx
      · exact .inr (.inr ⟨x, hx, e1, e2⟩)
      · obtain rfl : x = it := by simpa using hx
        rcases hs with hs | hs
        · exact .inl (by rw [← e1, ← e2, hs])
        · exact .inr (.inl (by rw [← e1, ← e2]; exact hs))

/-- A pair that is alike: its operands come onto the list, and it may have been noted. -/
theorem InvBm.push {B : Nat} {W : World} {t0 u0 : Ty} {D : List (Ty × Ty)} {its ks : List It} {k : Int} {ts us : List Ty} {p q : Nat × Nat} {es es' : List MapEntry} (h : InvBm B W t0 u0 D (its ++ [⟨.mk k ts, .mk k us, p, q⟩]) es) (hl : ts.length = us.length)
    (hks : ∀ it ∈ ks, NdAtBm B W it.t it.p ∧ NdAtBm B W it.u it.q) (hke : ts = us → ∀ it ∈ ks, it.t = it.u) (hkk : ∀ i (h : i < ts.length) (h' : i < us.length), ∃ it ∈ ks, it.t = ts[i] ∧ it.u = us[i])
    (hes : ∀ e ∈ es', (∃ e0 ∈ es, e.key = e0.key ∧ e.val = e0.val) ∨ e.key = kv p q ∧ e.val = .bool true) : InvBm B W t0 u0 ((.mk k ts, .mk k us) :: D) (its ++ ks) es' := by
  have hit := h.rd ⟨.mk k ts, .mk k us, p, q⟩ (by simp)
  have mv : ∀ {a b : Ty}, (∃ it ∈ its ++ [(⟨.mk k ts, .mk k us, p, q⟩ : It)], it.t = a ∧ it.u = b) → (a, b) ∈ (Ty.mk k ts, Ty.mk k us) :: D ∨ ∃ it ∈ its ++ ks, it.t = a ∧ it.u = b := by
    rintro a b ⟨x, hx, e1, e2⟩
    rcases List.mem_append.1 hx with hx | hx
    · exact .inr ⟨x, by simp [hx], e1, e2⟩
    · obtain rfl : x = _ := by simpa using hx
      exact .inl (by simp [← e1, ← e2])
  refine ⟨fun x hx => ?_, fun e he => ?_, fun k' ts' l us' hm => ?_, fun e x hx => ?_, ?_⟩
  · rcases List.mem_append.1 hx with hx | hx
    · exact h.rd x (by simp [hx])
    · exact hks x hx
  · rcases hes e he with ⟨e0, he0, hk, hv⟩ | ⟨hk, hv⟩
    · obtain ⟨p', q', t, u, h1, h2, h3, h4, h5⟩ := h.key e0 he0
      refine ⟨p', q', t, u, hk.trans h1, hv.trans h2, h3, h4, ?_⟩
      rcases h5 with h5 | h5
      · exact .inl h5
      · exact .inr (by simp [h5])
    · exact ⟨p, q, _, _, hk, hv, hit.1, hit.2, .inr (by simp)⟩
  · rcases List.mem_cons.1 hm with hm | hm
    · simp only [Prod.mk.injEq, Ty.mk.injEq] at hm
      obtain ⟨⟨rfl, rfl⟩, rfl, rfl⟩ := hm
      refine ⟨rfl, hl, fun i hi hi' => ?_⟩
      obtain ⟨x, hx, e⟩ := hkk i hi hi'
      exact .inr (.inr ⟨x, by simp [hx], e⟩)
    · obtain ⟨h1, h2, h3⟩ := h.closed k' ts' l us' hm
      refine ⟨h1, h2, fun i hi hi' => ?_⟩
      rcases h3 i hi hi' with g | g | g
      · exact .inl g
      · exact .inr (.inl (by simp [g]))
      · exact .inr (mv g)
  · rcases List.mem_append.1 hx with hx | hx
    · exact h.sound e x (by simp [hx])
    · have := h.sound e ⟨.mk k ts, .mk k us, p, q⟩ (by simp)
      simp only [Ty.mk.injEq, true_and] at this
      exact hke this x hx
  · rcases h.root with g | g | g
    · exact .inl g
    · exact .inr (.inl (by simp [g]))
    · exact .inr (mv g)

theorem InvBm.same {B : Nat} {W : World} {t0 u0 : Ty} {D : List (Ty × Ty)} {es : List MapEntry} (h : InvBm B W t0 u0 D [] es) : ∀ t u, (t, u) ∈ D → t = u := fun t =>
  Ty.ind (P := fun t => ∀ u, (t, u) ∈ D → t = u) (fun k ts ih u hm => by
    obtain ⟨l, us⟩ := u
    obtain ⟨rfl, hl, h3⟩ := h.closed k ts l us hm
    have : ts = us := List.ext_getElem hl fun i hi hi' => by
      rcases h3 i hi hi' with g | g | ⟨x, hx, _⟩
      · exact g
      · exact ih _ (List.getElem_mem hi) _ g
      · cases hx
    rw [this]) t

/-- All that has been noted is alike. -/
def GoodKBm (B : Nat) (W : World) (es : List MapEntry) : Prop := ∀ e ∈ es, ∃ p q t, e.key = kv p q ∧ e.val = .bool true ∧ NdAtBm B W t p ∧ NdAtBm B W t q

theorem InvBm.done {B : Nat} {W : World} {t0 u0 : Ty} {D : List (Ty × Ty)} {es : List MapEntry} (h : InvBm B W t0 u0 D [] es) : t0 = u0 ∧ GoodKBm B W es := by
  refine ⟨?_, fun e he => ?_⟩
  · rcases h.root with g | g | ⟨x, hx, _⟩
    · exact g
    · exact h.same _ _ g
    · cases hx
  · obtain ⟨p, q, t, u, h1, h2, h3, h4, h5⟩ := h.key e he
    have : t = u := h5.elim id (h.same t u)
    subst this
    exact ⟨p, q, t, h1, h2, h3, h4⟩

theorem InvBm.start {B : Nat} {W : World} {t u : Ty} {p q : Nat × Nat} {es : List MapEntry} (ht : NdAtBm B W t p) (hu : NdAtBm B W u q) (hg : GoodKBm B W es) : InvBm B W t u [] [⟨t, u, p, q⟩] es := by
  have one : ∀ it ∈ [(⟨t, u, p, q⟩ : It)], it = ⟨t, u, p, q⟩ := fun it hi => by simpa using hi
  refine ⟨fun it hi => ?_, fun e he => ?_, (fun _ _ _ _ h => by cases h), fun e it hi => ?_, .inr (.inr ⟨⟨t, u, p, q⟩, by simp, rfl, rfl⟩)⟩
  · rw [one it hi]
    exact ⟨ht, hu⟩
  · obtain ⟨p, q, t, h1, h2, h3, h4⟩ := hg e he
    exact ⟨p, q, t, t, h1, h2, h3, h4, .inl rfl⟩
  · rw [one it hi]
    exact e

theorem InvBm.kp {B : Nat} {W wr : World} {t0 u0 : Ty} {D : List (Ty × Ty)} {its : List It} {es : List MapEntry} {M : Nat} {es0 : Array MapEntry} {c0 : Nat} (h : InvBm B W t0 u0 D its es) (hx : Cx M W wr) (hM : W.heap[M]? = some (.map es0 c0)) : KP wr es := fun e he => by
  obtain ⟨p, q, t, u, h1, h2, h3, h4, _⟩ := h.key e he
  obtain ⟨_, _, _, _, _, _, r1, _⟩ := h3.cx hx hM
  obtain ⟨_, _, _, _, _, _, r2, _⟩ := h4.cx hx hM
  exact ⟨p, q, h1, h2, r1.1, r2.1⟩

end Go.Proofs.YtffmpjcjmffdeaaDoor

namespace Go.Proofs.YtffmpjcjmffdeaaDoor
open Go.RowKit

theorem Raw.below {w w' : World} {b : Nat} (h : Raw w b) (hb : Below w.heap.size w w') : Raw w' b := by
  obtain ⟨⟨C, T, fz, hC⟩, hf⟩ := h
  exact ⟨⟨C, T, fz, (hb.block b (lt_of_block hC)).trans hC⟩, fun o => (hb.frozen (p := ⟨b, o, none⟩) (lt_of_block hC)).trans (hf o)⟩

end Go.Proofs.YtffmpjcjmffdeaaDoor

namespace Go.Proofs.YtffmpjcjmffdeaaDoor
open Go.RowKit

theorem any_only9 {d : Nat} {a : Ty} (ha : shp (d + 1) a = true) (h : kindT a = 1) : a = .mk 1 [] := by
  obtain ⟨k, ts, rfl⟩ := a.shape
  have hk : k = 1 := h
  subst hk
  simp only [shp, Bool.and_eq_true, beq_iff_eq] at ha
  have h0 : kidsOf 1 = 0 := by decide
  have : ts.length = 0 := by omega
  rw [List.length_eq_zero_iff.1 this]

end Go.Proofs.YtffmpjcjmffdeaaDoor

namespace Go.Proofs.YtffmpjcjmffdeaaDoor
open Go.RowKit


theorem meet_any1 (b : Ty) : meet (.mk 1 []) b = b := by
  obtain ⟨k, ts, rfl⟩ := b.shape
  simp [meet]

theorem meet_any2 {a : Ty} (h : kindT a ≠ 1) : meet a (.mk 1 []) = a := by
  obtain ⟨k, ts, rfl⟩ := a.shape
  have hk : k ≠ 1 := h
  simp [meet, hk]

theorem meet_two {k : Int} (hk : k ≠ 1) (x y x' y' : Ty) : meet (.mk k [x, y]) (.mk k [x', y']) = .mk k [meet x x', meet y y'] := by
  simp [meet, meetL, hk]

theorem meet_leaf {k : Int} (hk : k ≠ 1) : meet (.mk k []) (.mk k []) = .mk k [] := by
  simp [meet, meetL, hk]

end Go.Proofs.YtffmpjcjmffdeaaDoor

namespace Go.Proofs.YtffmpjcjmffdeaaDoor
open Go.RowKit


theorem meet_unk (a : Ty) {d : Nat} (ha : shp (d + 1) a = true) : meet a (.mk 1 []) = a := by
  by_cases h : kindT a = 1
  · rw [any_only9 ha h, meet_any1]
  · exact meet_any2 h

end Go.Proofs.YtffmpjcjmffdeaaDoor

namespace Go.Proofs.YtffmpjcjmffdeaaDoor
open Go.RowKit

theorem sub_self : ∀ (d : Nat) (a : Ty), shp d a = true → sub d 0 a a = true
  | 0, a, ha => by simp [shp] at ha
  | d + 1, a, ha => by
    by_cases ha1 : kindT a = 1
    · rw [sub_any1 _ _ _ _ ha1, ha1]; rfl
    · cases sameK_of ha ha ha1 rfl with
      | leaf k hk =>
        rw [sub_same _ _ _ _ ha1 ha1 rfl]
        simp only [kidsT8, subS]
      | two k x y x' y' hk hx hy hx' hy' =>
        rw [sub_same _ _ _ _ ha1 ha1 rfl]
        simp only [kindT_mk, kids_mk, subS_two, Int.neg_zero]
        rw [sub_self d x hx, sub_self d y hy]
        simp

mutual
theorem tyEq_eq : ∀ (t u : Ty), tyEq t u = true → t = u
  | .mk k ts, .mk k' us, h => by
    simp only [tyEq, Bool.and_eq_true, beq_iff_eq] at h
    rw [h.1, tyEqL_eq ts us h.2]
theorem tyEqL_eq : ∀ (ts us : List Ty), tyEqL ts us = true → ts = us
  | [], [], _ => rfl
  | [], _ :: _, h => by simp [tyEqL] at h
  | _ :: _, [], h => by simp [tyEqL] at h
  | t :: ts, u :: us, h => by
    simp only [tyEqL, Bool.and_eq_true] at h
    rw [tyEq_eq t u h.1, tyEqL_eq ts us h.2]
end

theorem tyEq_ne {t u : Ty} (h : t ≠ u) : tyEq t u = false := by
  cases he : tyEq t u with
  | false => rfl
  | true => exact absurd (tyEq_eq t u he) h

theorem prec_refl8 : ∀ (d : Nat) (a : Ty), shp d a = true → prec a a = true
  | 0, a, ha => by simp [shp] at ha
  | d + 1, a, ha => by
    by_cases ha1 : kindT a = 1
    · exact prec_any ha1
    · cases sameK_of ha ha ha1 rfl with
      | leaf k hk => exact prec_leaf
      | two k x y x' y' hk hx hy hx' hy' => rw [prec_two hk, prec_refl8 d x hx, prec_refl8 d y hy]; rfl

/-- What is at least as precise as a type that is not unknown has its kind. -/
theorem prec_same {d : Nat} {c a : Ty} (hc : shp (d + 1) c = true) (ha : shp (d + 1) a = true) (ha1 : kindT a ≠ 1) (h : prec c a = true) : kindT c ≠ 1 ∧ kindT c = kindT a ∧ SameK d c a := by
  rcases prec_kind h with h1 | h1
  · exact absurd h1 ha1
  · have hc1 : kindT c ≠ 1 := by rw [h1]; exact ha1
    exact ⟨hc1, h1, sameK_of hc ha hc1 h1⟩

theorem shp_two8 {d : Nat} {k : Int} {x y : Ty} (hk : k = 4 ∨ k = 5) (hx : shp d x = true) (hy : shp d y = true) : shp (d + 1) (.mk k [x, y]) = true := by
  simp only [shp, List.all_cons, List.all_nil, hx, hy, Bool.and_true]
  rcases hk with rfl | rfl <;> rfl

/-- Meets are greatest lower bounds. -/
theorem meet_glb : ∀ (d : Nat) (a b : Ty), shp d a = true → shp d b = true → cons a b = true → shp d (meet a b) = true ∧ prec (meet a b) a = true ∧ prec (meet a b) b = true ∧ meet a b = meet b a ∧ (∀ c, shp d c = true → prec c a = true → prec c b = true → prec c (meet a b) = true)
  | 0, a, _, ha, _, _ => by simp [shp] at ha
  | d + 1, a, b, ha, hb, h => by
    rcases rel_cases ha hb with h1 | h1 | ⟨h1, h2, h3⟩ | ⟨h1, h2, hs⟩
    · rw [any_only9 ha h1, meet_any1]
      refine ⟨hb, prec_any rfl, prec_refl8 _ _ hb, (meet_unk b hb).symm, fun c _ _ h => h⟩
    · rw [any_only9 hb h1, meet_unk a ha]
      refine ⟨ha, prec_refl8 _ _ ha, prec_any rfl, (meet_any1 a).symm, fun c _ h _ => h⟩
    · rw [cons_diff h1 h2 h3] at h
      cases h
    · cases hs with
      | leaf k hk =>
        rw [meet_leaf (show k ≠ 1 by omega)]
        exact ⟨ha, prec_leaf, prec_leaf, rfl, fun c _ h _ => h⟩
      | two k x y x' y' hk hx hy hx' hy' =>
        rw [cons_two hk, Bool.and_eq_true] at h
        have hk1 : k ≠ 1 := by omega
        obtain ⟨a1, a2, a3, a5, a4⟩ := meet_glb d _ _ hx hx' h.1
        obtain ⟨b1, b2, b3, b5, b4⟩ := meet_glb d _ _ hy hy' h.2
        rw [meet_two hk1, meet_two hk1, prec_two hk, prec_two hk, a2, a3, b2, b3, ← a5, ← b5]
        refine ⟨shp_two8 hk a1 b1, rfl, rfl, rfl, fun c hc h1c h2c => ?_⟩
        obtain ⟨c1, c2, cs⟩ := prec_same hc ha h1 h1c
        cases cs with
        | two k' p q p' q' hk' hp hq hp' hq' =>
          rw [prec_two hk, Bool.and_eq_true] at h1c h2c ⊢
          exact ⟨a4 p hp h1c.1 h2c.1, b4 q hq h1c.2 h2c.2⟩

theorem prec_anti : ∀ (d : Nat) (a b : Ty), shp d a = true → shp d b = true → prec a b = true → prec b a = true → a = b
  | 0, a, _, ha, _, _, _ => by simp [shp] at ha
  | d + 1, a, b, ha, hb, h1, h2 => by
    by_cases hb1 : kindT b = 1
    · rcases prec_kind h2 with h | h
      · rw [any_only9 ha h, any_only9 hb hb1]
      · rw [any_only9 ha (by omega), any_only9 hb hb1]
    · obtain ⟨c1, c2, cs⟩ := prec_same ha hb hb1 h1
      cases cs with
      | leaf k hk => rfl
      | two k p q p' q' hk hp hq hp' hq' =>
        rw [prec_two hk, Bool.and_eq_true] at h1 h2
        rw [prec_anti d p p' hp hp' h1.1 h2.1, prec_anti d q q' hq hq' h1.2 h2.2]

theorem prec_meet (d : Nat) (a b : Ty) (ha : shp d a = true) (hb : shp d b = true) (h : cons a b = true) : prec a b = tyEq (meet a b) a := by
  obtain ⟨m1, m2, m3, m5, m4⟩ := meet_glb d a b ha hb h
  cases hp : prec a b with
  | true =>
    have h1 := m4 a ha (prec_refl8 d a ha) hp
    have := prec_anti d (meet a b) a m1 ha m2 h1
    rw [this, tyEq_refl]
  | false =>
    symm
    refine tyEq_ne fun e => ?_
    rw [e, hp] at m3
    cases m3

theorem meetOf_glb (a b : Ty) (h : consOf a b = true) : vld (meetOf a b) = true ∧ precOf (meetOf a b) a = true ∧ precOf (meetOf a b) b = true ∧ meetOf b a = meetOf a b ∧ consOf b a = true ∧ (∀ c, precOf c a = true → precOf c b = true → precOf c (meetOf a b) = true) ∧ precOf a b = tyEq (meetOf a b) a := by
  have hm : meetOf a b = meet a b := by unfold meetOf; rw [if_pos h]
  simp only [consOf, Bool.and_eq_true] at h
  obtain ⟨⟨ha, hb⟩, hc⟩ := h
  obtain ⟨m1, m2, m3, m5, m4⟩ := meet_glb 4 a b ha hb hc
  have hv : vld (meet a b) = true := m1
  have hcc : consOf b a = true := by simp only [consOf, ha, hb, Bool.true_and]; exact cons_comm8 4 a b ha hb hc
  rw [hm]
  refine ⟨hv, by simp only [precOf, hv, ha, m2]; rfl, by simp only [precOf, hv, hb, m3]; rfl, by unfold meetOf; rw [if_pos hcc, m5], hcc, fun c h1 h2 => ?_, ?_⟩
  · simp only [precOf, Bool.and_eq_true] at h1 h2 ⊢
    exact ⟨⟨h1.1.1, hv⟩, m4 c h1.1.1 h1.2 h2.2⟩
  · simp only [precOf, ha, hb, Bool.true_and]
    exact prec_meet 4 a b ha hb hc

end Go.Proofs.YtffmpjcjmffdeaaDoor

namespace Go.Proofs.YtffmpjcjmffdeaaDoor
open Go.RowKit

def twoV (k : Int) (t u : Ty) : Option Ty := if vld (.mk k [t, u]) = true then some (.mk k [t, u]) else none


/-- What becomes of an operand; the number is the fitter's own state. -/
abbrev FitF := Int → Tm → Ty → Ty → Option Tm × Int

def fitL (F : FitF) : List Tm → List Ty → List Ty → Int → Option (List Tm) × Int
  | e :: es, u :: us, v :: vs, s => match F s e u v with
    | (none, s1) => (none, s1)
    | (some e', s1) => match fitL F es us vs s1 with
      | (none, s2) => (none, s2)
      | (some es', s2) => (some (e' :: es'), s2)
  | _, _, _, s => (some [], s)

def noTm : Tm := .mk 0 ⟨#[]⟩ 0 (.mk 0 []) (.mk 0 []) 0 []
def outM (k : Int) (nm : ByteArray) (num : Int) (ty fr : Ty) (lb : Int) (es : List Tm) : Tm := if k = 13 then es.getD 0 noTm else .mk k nm num ty fr lb es


end Go.Proofs.YtffmpjcjmffdeaaDoor

namespace Go.Proofs.YtffmpjcjmffdeaaDoor
open Go.RowKit

theorem consOf_eq {u v : Ty} (h : vld u = true) (h' : vld v = true) : consOf u v = cons u v := by simp [consOf, h, h']

/-- What a node says. -/
def NodOk (o : Option (Tm × Ty) × Int) (r : Option Ty) (s : Int) : Prop := ∃ p, o = (p, s) ∧ p.map Prod.snd = r ∧ ∀ u, r = some u → vld u = true

theorem NodOk.no (s : Int) : NodOk (none, s) none s := ⟨none, rfl, rfl, fun _ h => by cases h⟩
theorem NodOk.yes {e : Tm} {u : Ty} (s : Int) (h : vld u = true) : NodOk (some (e, u), s) (some u) s := ⟨_, rfl, rfl, fun v hv => by cases hv; exact h⟩

theorem NodOk.two {F : FitF} {k : Int} {nm : ByteArray} {num : Int} {ty fr : Ty} {lb : Int} {es : List Tm} {us : List Ty} {s q : Int} {a b : Ty}
    (hf : fitL F es us us s = (some es, s)) :
    NodOk (if vld (.mk q [a, b]) = true then (match fitL F es us us s with
      | (none, s1) => (none, s1)
      | (some es', s1) => (some (outM k nm num ty fr lb es', (.mk q [a, b] : Ty)), s1)) else (none, s)) (twoV q a b) s := by
  rw [hf]
  unfold twoV
  by_cases h : vld (.mk q [a, b]) = true
  · rw [if_pos h, if_pos h]; exact NodOk.yes s h
  · rw [if_neg h, if_neg h]; exact NodOk.no s

end Go.Proofs.YtffmpjcjmffdeaaDoor

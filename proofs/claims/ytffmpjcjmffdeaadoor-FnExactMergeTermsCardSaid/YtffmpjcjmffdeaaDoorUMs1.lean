/- Nodes of terms known by their places; the work list of the comparison of terms. -/
import Derived.Test.YtffmpjcjmffdeaaDoorUG1
import Derived.Test.YtffmpjcjmffdeaaDoorUG15
namespace Go.Proofs.YtffmpjcjmffdeaaDoor
open Go.RowKit

/-- From w to w' only new blocks and the blocks M and N have been written. -/
structure Cy (M N : Nat) (w w' : World) : Prop where
  os : w'.os = w.os
  tape : w'.tape = w.tape
  output : w'.output = w.output
  size : w.heap.size ≤ w'.heap.size
  block : ∀ k, k < w.heap.size → k ≠ M → k ≠ N → w'.heap[k]? = w.heap[k]?

theorem Cy.of_below {M N : Nat} {w w' : World} (h : Below w.heap.size w w') : Cy M N w w' := ⟨h.os, h.tape, h.output, h.size, fun k hk _ _ => h.block k hk⟩
theorem Cy.left {M N : Nat} {w w' : World} (h : Cx M w w') : Cy M N w w' := ⟨h.os, h.tape, h.output, h.size, fun k hk hn _ => h.block k hk (fun e => hn (Option.some.inj e))⟩
theorem Cy.right {M N : Nat} {w w' : World} (h : Cx N w w') : Cy M N w w' := ⟨h.os, h.tape, h.output, h.size, fun k hk _ hn => h.block k hk (fun e => hn (Option.some.inj e))⟩
theorem Cy.trans {M N : Nat} {a b c : World} (h : Cy M N a b) (k : Cy M N b c) : Cy M N a c :=
  ⟨k.os.trans h.os, k.tape.trans h.tape, k.output.trans h.output, Nat.le_trans h.size k.size, fun i hi hm hn => (k.block i (Nat.lt_of_lt_of_le hi h.size) hm hn).trans (h.block i hi hm hn)⟩
theorem Cy.alloc {M N : Nat} {a b : World} (h : Cy M N a b) (o : Obj) : Cy M N a (b.alloc o) := h.trans (Cy.of_below ((Below.refl _ _).alloc (Nat.le_refl _) _))
theorem Cy.drew {M N : Nat} {a b : World} (h : Cy M N a b) : Cy M N a b.drew := ⟨h.os, h.tape, h.output, h.size, h.block⟩
theorem Cy.drewN {M N : Nat} {a b : World} (h : Cy M N a b) (n : Nat) : Cy M N a (b.drewN n) := ⟨h.os, h.tape, h.output, h.size, h.block⟩
theorem Cy.blk {M N : Nat} {w w' : World} (h : Cy M N w w') {K : Nat} {o : Obj} (hK : w.heap[K]? = some o) (hm : K ≠ M) (hn : K ≠ N) : w'.heap[K]? = some o := (h.block K (lt_of_block hK) hm hn).trans hK
theorem Cy.cellE {M N : Nat} {w w' : World} (h : Cy M N w w') {b o : Nat} (hb : b < w.heap.size) (hm : b ≠ M) (hn : b ≠ N) : w'.cell? ⟨b, o, none⟩ = w.cell? ⟨b, o, none⟩ :=
  World.cell?_of_block (w := w) (a := ⟨b, o, none⟩) (h.block b hb hm hn)
theorem Cy.frozenE {M N : Nat} {w w' : World} (h : Cy M N w w') {b o : Nat} (hb : b < w.heap.size) (hm : b ≠ M) (hn : b ≠ N) : w'.frozen? ⟨b, o, none⟩ = w.frozen? ⟨b, o, none⟩ :=
  World.frozen?_of_block (w := w) (a := ⟨b, o, none⟩) (h.block b hb hm hn)
theorem Cy.below {M N B : Nat} {w w' : World} (h : Cy M N w w') (hB : B ≤ w.heap.size) (hM : B ≤ M) (hN : B ≤ N) : Below B w w' :=
  ⟨h.os, h.tape, h.output, h.size, fun k hk => h.block k (by omega) (by omega) (by omega)⟩
theorem Cy.grown {M N : Nat} {a b c : World} {row : Option Nat} (h : Cy M N a b) (hg : b.grownBy c row) (hrow : ∀ g, row = some g → a.heap.size ≤ g) : Cy M N a c :=
  ⟨hg.os.trans h.os, hg.tape.trans h.tape, hg.output.trans h.output, Nat.le_trans h.size hg.size, fun i hi hm hn =>
    (hg.block i (Nat.lt_of_lt_of_le hi h.size) (fun e => by have := hrow i e.symm; omega)).trans (h.block i hi hm hn)⟩

theorem Raw.cy {w w' : World} {M N b : Nat} (h : Raw w b) (hx : Cy M N w w') (hm : b ≠ M) (hn : b ≠ N) : Raw w' b := by
  obtain ⟨⟨C, T, fz, hC⟩, hf⟩ := h
  exact ⟨⟨C, T, fz, hx.blk hC hm hn⟩, fun o => (hx.frozenE (lt_of_block hC) hm hn).trans (hf o)⟩

theorem NdAtBm.keep {B M N : Nat} {w w' : World} {t : Ty} {p : Nat × Nat} {es es2 : Array MapEntry} {c c2 : Nat} (h : NdAtBm B w t p) (hx : ∀ k, k < B → k ≠ M → k ≠ N → w'.heap[k]? = w.heap[k]?) (hM : w.heap[M]? = some (.map es c)) (hN : w.heap[N]? = some (.map es2 c2)) : NdAtBm B w' t p := by
  obtain ⟨k, s, fp, h0, h1, ht, hr, hf⟩ := h
  have hb : ∀ {x : Nat}, RawB B w x → w'.heap[x]? = w.heap[x]? := fun hx' => hx _ hx'.2 (hx'.ne hM) (hx'.ne hN)
  have hc : ∀ {x o : Nat}, RawB B w x → w'.cell? ⟨x, o, none⟩ = w.cell? ⟨x, o, none⟩ := fun {x o} hx' => World.cell?_of_block (w := w) (a := ⟨x, o, none⟩) (hb hx')
  have hw : ∀ {x : Nat}, RawB B w x → RawB B w' x := fun {x} hx' => by
    have e := hb hx'
    obtain ⟨⟨⟨C, T, fz, hC⟩, hz⟩, hl⟩ := hx'
    exact ⟨⟨⟨C, T, fz, e.trans hC⟩, fun o => (World.frozen?_of_block (w := w) (a := ⟨x, o, none⟩) e).trans (hz o)⟩, hl⟩
  exact ⟨k, s, fp, (hc hr).trans h0, (hc hr).trans h1, ht.congr (fun b hb' o => hc (hf b hb')), hw hr, fun x hx' => hw (hf x hx')⟩

theorem GoodKBm.keep {B M N : Nat} {w w' : World} {L : List MapEntry} {es es2 : Array MapEntry} {c c2 : Nat} (h : GoodKBm B w L) (hx : ∀ k, k < B → k ≠ M → k ≠ N → w'.heap[k]? = w.heap[k]?) (hM : w.heap[M]? = some (.map es c)) (hN : w.heap[N]? = some (.map es2 c2)) : GoodKBm B w' L := fun e he => by
  obtain ⟨p, q, t, h1, h2, h3, h4⟩ := h e he
  exact ⟨p, q, t, h1, h2, h3.keep hx hM hN, h4.keep hx hM hN⟩

theorem goodK_cxBm {B M : Nat} {w w' : World} {es1 : Array MapEntry} {c : Nat} {L : List MapEntry} (h : GoodKBm B w L) (hx : Cx M w w') (hM : w.heap[M]? = some (.map es1 c)) : GoodKBm B w' L := fun e he => by
  obtain ⟨p, q, t, h1, h2, h3, h4⟩ := h e he
  exact ⟨p, q, t, h1, h2, h3.cx hx hM, h4.cx hx hM⟩

def hdM : Tm → Int × ByteArray × Int × Ty × Ty × Int
  | .mk k nm num ty fr lb _ => (k, nm, num, ty, fr, lb)
def kdM : Tm → List Tm
  | .mk _ _ _ _ _ _ ts => ts
theorem tm_ext {t u : Tm} (h1 : hdM t = hdM u) (h2 : kdM t = kdM u) : t = u := by
  obtain ⟨k, nm, num, ty, fr, lb, ts⟩ := t
  obtain ⟨k', nm', num', ty', fr', lb', us⟩ := u
  simp only [hdM, kdM, Prod.mk.injEq] at h1 h2
  obtain ⟨rfl, rfl, rfl, rfl, rfl, rfl⟩ := h1
  subst h2
  rfl

/-- A term's node at a place, all its memory unfrozen. -/
def NdAtMm (w : World) (t : Tm) (p : Nat × Nat) : Prop :=
  ∃ (cs : Array Value) (fp : List Nat), (∀ i, i < 9 → w.cell? ⟨p.1, p.2 + i, none⟩ = cs[i]?) ∧ t.At w (.agg cs) fp ∧ Raw w p.1 ∧ ∀ x ∈ fp, Raw w x

theorem NdAtMm.cy {w w' : World} {M N : Nat} {t : Tm} {p : Nat × Nat} {es es2 : Array MapEntry} {c c2 : Nat} (h : NdAtMm w t p) (hx : Cy M N w w') (hM : w.heap[M]? = some (.map es c)) (hN : w.heap[N]? = some (.map es2 c2)) : NdAtMm w' t p := by
  obtain ⟨cs, fp, h0, ht, hr, hf⟩ := h
  exact ⟨cs, fp, fun i hi => (hx.cellE hr.lt (hr.ne hM) (hr.ne hN)).trans (h0 i hi), ht.congr (fun b hb o => hx.cellE (hf b hb).lt ((hf b hb).ne hM) ((hf b hb).ne hN)), hr.cy hx (hr.ne hM) (hr.ne hN), fun x h => (hf x h).cy hx ((hf x h).ne hM) ((hf x h).ne hN)⟩

theorem cells9_eq {w : World} {b o : Nat} {cs ds : Array Value} (h : ∀ i, i < 9 → w.cell? ⟨b, o + i, none⟩ = cs[i]?) (h' : ∀ i, i < 9 → w.cell? ⟨b, o + i, none⟩ = ds[i]?) (hc : cs.size = 9) (hd : ds.size = 9) : cs = ds := by
  apply Array.ext (by omega)
  intro i h1 h2
  have := (h i (by omega)).symm.trans (h' i (by omega))
  rw [Array.getElem?_eq_getElem h1, Array.getElem?_eq_getElem h2] at this
  exact Option.some.inj this

mutual
/-- A value reads as one tree. -/
theorem Tm.At.det {w : World} : ∀ {t u : Tm} {v : Value} {f g : List Nat}, Tm.At w t v f → Tm.At w u v g → t = u
  | .mk k nm num ty fr lb ts, .mk k' nm' num' ty' fr' lb' us, v, f, g, h, h' => by
    simp only [Tm.At] at h h'
    obtain ⟨k1, s1, k2, s2, s, f1, f2, f3, rfl, hnm, h1, h2, rfl, h⟩ := h
    obtain ⟨k1', s1', k2', s2', s', g1, g2, g3, e, hnm', h1', h2', rfl, h'⟩ := h'
    simp only [Value.agg.injEq, Array.mk.injEq, List.cons.injEq, Value.int.injEq, Value.string.injEq, and_true, true_and] at e
    obtain ⟨rfl, rfl, rfl, rfl, rfl, rfl, rfl, rfl, rfl⟩ := e
    obtain rfl := Ty.At.det h1 h1'
    obtain rfl := Ty.At.det h2 h2'
    rcases h with ⟨rfl, _, a, cap, rfl⟩ | ⟨b, o, cap, f1, rfl, hp, hc, hm, hl, rfl⟩
    · rcases h' with ⟨rfl, _⟩ | ⟨b', o', cap', g1, e, hp', _⟩
      · rfl
      · simp only [Value.slice.injEq] at e
        omega
    · rcases h' with ⟨rfl, _, a, cap', e⟩ | ⟨b', o', cap', g1, e, hp', hc', hm', hl', rfl⟩
      · simp only [Value.slice.injEq] at e
        omega
      · simp only [Value.slice.injEq, Option.some.injEq, Addr.mk.injEq, and_true] at e
        obtain ⟨⟨rfl, rfl⟩, hn, rfl⟩ := e
        rw [Tm.AtL.det hl hl' hn]
theorem Tm.AtL.det {w : World} : ∀ {ts us : List Tm} {b o : Nat} {f g : List Nat}, Tm.AtL w ts b o f → Tm.AtL w us b o g → ts.length = us.length → ts = us
  | [], [], _, _, _, _, _, _, _ => rfl
  | [], _ :: _, _, _, _, _, _, _, hn => by simp at hn
  | _ :: _, [], _, _, _, _, _, _, hn => by simp at hn
  | t :: ts, u :: us, b, o, f, g, h, h', hn => by
    simp only [Tm.AtL] at h h'
    obtain ⟨cs, f1, f2, hc, ht, hl, rfl⟩ := h
    obtain ⟨ds, g1, g2, hd, hu, hl', rfl⟩ := h'
    obtain rfl := cells9_eq hc hd (Tm.size9 ht) (Tm.size9 hu)
    rw [Tm.At.det ht hu, Tm.AtL.det hl hl' (by simpa using hn)]
end

theorem NdAtMm.det {w : World} {t u : Tm} {p : Nat × Nat} (h : NdAtMm w t p) (h' : NdAtMm w u p) : t = u := by
  obtain ⟨cs, fp, h0, ht, _, _⟩ := h
  obtain ⟨ds, fp', h0', ht', _, _⟩ := h'
  obtain rfl := cells9_eq h0 h0' (Tm.size9 ht) (Tm.size9 ht')
  exact ht.det ht'

/-- What a node's cells hold, and where its operands and its types lie. -/
theorem NdAtMm.open {w : World} {k : Int} {nm : ByteArray} {num : Int} {ty fr : Ty} {lb : Int} {ts : List Tm} {p : Nat × Nat} (h : NdAtMm w (.mk k nm num ty fr lb ts) p) :
    ∃ a cap, w.cell? ⟨p.1, p.2, none⟩ = some (.int .i64 k) ∧ w.cell? ⟨p.1, p.2 + 1, none⟩ = some (.string nm) ∧ w.cell? ⟨p.1, p.2 + 2, none⟩ = some (.int .i64 num) ∧ w.cell? ⟨p.1, p.2 + 7, none⟩ = some (.int .i64 lb) ∧ w.cell? ⟨p.1, p.2 + 8, none⟩ = some (.slice a ts.length cap) ∧ ts.length ≤ cap ∧ ts.length ≤ 9223372036854775807 ∧
      NdAtBm w.heap.size w ty (p.1, p.2 + 3) ∧ NdAtBm w.heap.size w fr (p.1, p.2 + 5) ∧ Raw w p.1 ∧ ∀ i, (h : i < ts.length) → ∃ b o, a = some ⟨b, o, none⟩ ∧ NdAtMm w ts[i] (b, o + i * 9) := by
  obtain ⟨cs, fp, h0, ht, hr, hf⟩ := h
  obtain ⟨k1, s1, k2, s2, s, f1, f2, f3, e, hnm, h1, h2, rfl, hs⟩ := Tm.at_mk.1 ht
  simp only [Value.agg.injEq] at e
  subst e
  have g0 := h0 0 (by omega)
  have g1 := h0 1 (by omega)
  have g2 := h0 2 (by omega)
  have g3 := h0 3 (by omega)
  have g4 := h0 4 (by omega)
  have g5 := h0 5 (by omega)
  have g6 := h0 6 (by omega)
  have g7 := h0 7 (by omega)
  have g8 := h0 8 (by omega)
  have nt : NdAtBm w.heap.size w ty (p.1, p.2 + 3) := by
    obtain ⟨k', n', a', c', e⟩ := h1.agg
    simp only [Value.agg.injEq, Array.mk.injEq, List.cons.injEq, and_true] at e
    obtain ⟨rfl, rfl⟩ := e
    exact ⟨_, _, f1, g3, g4, h1, ⟨hr, hr.lt⟩, fun x hx => ⟨hf x (by simp [hx]), (hf x (by simp [hx])).lt⟩⟩
  have nf : NdAtBm w.heap.size w fr (p.1, p.2 + 5) := by
    obtain ⟨k', n', a', c', e⟩ := h2.agg
    simp only [Value.agg.injEq, Array.mk.injEq, List.cons.injEq, and_true] at e
    obtain ⟨rfl, rfl⟩ := e
    exact ⟨_, _, f2, g5, g6, h2, ⟨hr, hr.lt⟩, fun x hx => ⟨hf x (by simp [hx]), (hf x (by simp [hx])).lt⟩⟩
  rcases hs with ⟨rfl, rfl, a, cap, rfl⟩ | ⟨b, o, cap, f4, rfl, hp, hc, hm, hl, rfl⟩
  · exact ⟨a, cap, g0, g1, g2, g7, g8, Nat.zero_le _, by simp, nt, nf, hr, fun i h => by simp at h⟩
  · refine ⟨_, _, g0, g1, g2, g7, g8, hc, hm, nt, nf, hr, fun i hi => ⟨b, o, rfl, ?_⟩⟩
    obtain ⟨ds, f5, hd, hat, hsub⟩ := Tm.atL_get hl i hi
    exact ⟨ds, f5, hd, hat, hf b (by simp), fun x hx => hf x (by simp [hsub x hx])⟩

/-- A pair of nodes to be compared. -/
structure ItMm where
  t : Tm
  u : Tm
  p : Nat × Nat
  q : Nat × Nat

/-- The cells of the work list. -/
def scMm : List ItMm → List Value
  | [] => []
  | it :: r => .pointer (some ⟨it.p.1, it.p.2, none⟩) :: .pointer (some ⟨it.q.1, it.q.2, none⟩) :: scMm r

theorem sc_appendMm : ∀ a b : List ItMm, scMm (a ++ b) = scMm a ++ scMm b
  | [], _ => rfl
  | it :: r, b => by simp only [List.cons_append, scMm, sc_appendMm r b]

theorem sc_lenMm : ∀ a : List ItMm, (scMm a).length = a.length * 2
  | [] => rfl
  | it :: r => by simp only [scMm, List.length_cons, sc_lenMm r]; omega

/-- How many nodes are still to come. -/
def wtMm : List ItMm → Nat
  | [] => 0
  | it :: r => it.t.sz + 1 + wtMm r

theorem wt_appendMm : ∀ a b : List ItMm, wtMm (a ++ b) = wtMm a + wtMm b
  | [], _ => by simp [wtMm]
  | it :: r, b => by simp only [List.cons_append, wtMm, wt_appendMm r b]; omega

theorem wt_lenMm : ∀ a : List ItMm, a.length ≤ wtMm a
  | [] => Nat.le_refl _
  | it :: r => by have := wt_lenMm r; simp only [wtMm, List.length_cons]; omega

/-- The operands of a pair of nodes as pairs. -/
def kidsMm (b o b' o' : Nat) : Nat → List Tm → List Tm → List ItMm
  | i, t :: ts, u :: us => ⟨t, u, (b, o + i * 9), (b', o' + i * 9)⟩ :: kidsMm b o b' o' (i + 1) ts us
  | _, _, _ => []

theorem kids_lenMm {b o b' o' : Nat} : ∀ {i : Nat} {ts us : List Tm}, ts.length = us.length → (kidsMm b o b' o' i ts us).length = ts.length
  | _, [], [], _ => rfl
  | _, [], _ :: _, h => by simp at h
  | _, _ :: _, [], h => by simp at h
  | i, t :: ts, u :: us, h => by simp only [kidsMm, List.length_cons, kids_lenMm (i := i + 1) (by simpa using h)]

theorem kids_getMm {b o b' o' : Nat} : ∀ {i : Nat} {ts us : List Tm} {j : Nat} (_ : ts.length = us.length) (h1 : j < ts.length) (h2 : j < us.length) (h3 : j < (kidsMm b o b' o' i ts us).length), (kidsMm b o b' o' i ts us)[j] = ⟨ts[j], us[j], (b, o + (i + j) * 9), (b', o' + (i + j) * 9)⟩
  | i, t :: ts, u :: us, 0, _, _, _, _ => rfl
  | i, t :: ts, u :: us, j + 1, h, h1, h2, h3 => by
    simp only [kidsMm, List.getElem_cons_succ]
    rw [kids_getMm (i := i + 1) (by simpa using h) (by simpa using h1) (by simpa using h2)]
    rw [show i + 1 + j = i + (j + 1) by omega]

theorem kids_wtMm {b o b' o' : Nat} : ∀ {i : Nat} {ts us : List Tm}, ts.length = us.length → wtMm (kidsMm b o b' o' i ts us) = szML ts + ts.length
  | _, [], [], _ => rfl
  | _, [], _ :: _, h => by simp at h
  | _, _ :: _, [], h => by simp at h
  | i, t :: ts, u :: us, h => by
    simp only [kidsMm, wtMm, szML, List.length_cons, kids_wtMm (i := i + 1) (ts := ts) (us := us) (by simpa using h)]
    omega

/-- The comparison so far: D has been compared, the list is open, the keys have been noted. -/
structure InvMm (W : World) (t0 u0 : Tm) (D : List (Tm × Tm)) (its : List ItMm) (es : List MapEntry) : Prop where
  rd : ∀ it ∈ its, NdAtMm W it.t it.p ∧ NdAtMm W it.u it.q
  key : ∀ e ∈ es, ∃ p q t u, e.key = kv p q ∧ e.val = .bool true ∧ NdAtMm W t p ∧ NdAtMm W u q ∧ (t = u ∨ (t, u) ∈ D)
  closed : ∀ t u, (t, u) ∈ D → hdM t = hdM u ∧ (kdM t).length = (kdM u).length ∧ ∀ i (h : i < (kdM t).length) (h' : i < (kdM u).length), (kdM t)[i] = (kdM u)[i] ∨ ((kdM t)[i], (kdM u)[i]) ∈ D ∨ ∃ it ∈ its, it.t = (kdM t)[i] ∧ it.u = (kdM u)[i]
  sound : t0 = u0 → ∀ it ∈ its, it.t = it.u
  root : t0 = u0 ∨ (t0, u0) ∈ D ∨ ∃ it ∈ its, it.t = t0 ∧ it.u = u0

theorem InvMm.pop {W : World} {t0 u0 : Tm} {D : List (Tm × Tm)} {its : List ItMm} {it : ItMm} {es : List MapEntry} (h : InvMm W t0 u0 D (its ++ [it]) es) (hs : it.t = it.u ∨ (it.t, it.u) ∈ D) : InvMm W t0 u0 D its es := by
  have mv : ∀ {a b : Tm}, (∃ x ∈ its ++ [it], x.t = a ∧ x.u = b) → a = b ∨ (a, b) ∈ D ∨ ∃ x ∈ its, x.t = a ∧ x.u = b := by
    rintro a b ⟨x, hx, e1, e2⟩
    rcases List.mem_append.1 hx with hx | hx
    · exact .inr (.inr ⟨x, hx, e1, e2⟩)
    · obtain rfl : x = it := by simpa using hx
      rcases hs with hs | hs
      · exact .inl (by rw [← e1, ← e2, hs])
      · exact .inr (.inl (by rw [← e1, ← e2]; exact hs))
  refine ⟨fun x hx => h.rd x (by simp [hx]), h.key, fun t u hm => ?_, fun e x hx => h.sound e x (by simp [hx]), ?_⟩
  · obtain ⟨h1, h2, h3⟩ := h.closed t u hm
    refine ⟨h1, h2, fun i hi hi' => ?_⟩
    rcases h3 i hi hi' with g | g | g
    · exact .inl g
    · exact .inr (.inl g)
    · exact mv g
  · rcases h.root with g | g | g
    · exact .inl g
    · exact .inr (.inl g)
    · exact mv g

/-- A pair that is alike: its operands come onto the list, and it may have been noted. -/
theorem InvMm.push {W : World} {t0 u0 : Tm} {D : List (Tm × Tm)} {its ks : List ItMm} {t u : Tm} {p q : Nat × Nat} {es es' : List MapEntry} (h : InvMm W t0 u0 D (its ++ [⟨t, u, p, q⟩]) es) (hh : hdM t = hdM u) (hl : (kdM t).length = (kdM u).length)
    (hks : ∀ it ∈ ks, NdAtMm W it.t it.p ∧ NdAtMm W it.u it.q) (hke : kdM t = kdM u → ∀ it ∈ ks, it.t = it.u) (hkk : ∀ i (h : i < (kdM t).length) (h' : i < (kdM u).length), ∃ it ∈ ks, it.t = (kdM t)[i] ∧ it.u = (kdM u)[i])
    (hes : ∀ e ∈ es', (∃ e0 ∈ es, e.key = e0.key ∧ e.val = e0.val) ∨ e.key = kv p q ∧ e.val = .bool true) : InvMm W t0 u0 ((t, u) :: D) (its ++ ks) es' := by
  have hit := h.rd ⟨t, u, p, q⟩ (by simp)
  have mv : ∀ {a b : Tm}, (∃ it ∈ its ++ [(⟨t, u, p, q⟩ : ItMm)], it.t = a ∧ it.u = b) → (a, b) ∈ (t, u) :: D ∨ ∃ it ∈ its ++ ks, it.t = a ∧ it.u = b := by
    rintro a b ⟨x, hx, e1, e2⟩
    rcases List.mem_append.1 hx with hx | hx
    · exact .inr ⟨x, by simp [hx], e1, e2⟩
    · obtain rfl : x = _ := by simpa using hx
      exact .inl (by simp [← e1, ← e2])
  refine ⟨fun x hx => ?_, fun e he => ?_, fun t' u' hm => ?_, fun e x hx => ?_, ?_⟩
  · rcases List.mem_append.1 hx with hx | hx
    · exact h.rd x (by simp [hx])
    · exact hks x hx
  · rcases hes e he with ⟨e0, he0, hk, hv⟩ | ⟨hk, hv⟩
    · obtain ⟨p', q', t, u, h1, h2, h3, h4, h5⟩ := h.key e0 he0
      refine ⟨p', q', t, u, hk.trans h1, hv.trans h2, h3, h4, ?_⟩
      rcases h5 with h5 | h5
      · exact .inl h5
      · exact .inr (by simp [h5])
    · exact ⟨p, q, _, _, hk, hv, hit.1, hit.2, .inr (by simp)⟩
  · rcases List.mem_cons.1 hm with hm | hm
    · simp only [Prod.mk.injEq] at hm
      obtain ⟨rfl, rfl⟩ := hm
      refine ⟨hh, hl, fun i hi hi' => ?_⟩
      obtain ⟨x, hx, e⟩ := hkk i hi hi'
      exact .inr (.inr ⟨x, by simp [hx], e⟩)
    · obtain ⟨h1, h2, h3⟩ := h.closed t' u' hm
      refine ⟨h1, h2, fun i hi hi' => ?_⟩
      rcases h3 i hi hi' with g | g | g
      · exact .inl g
      · exact .inr (.inl (by simp [g]))
      · exact .inr (mv g)
  · rcases List.mem_append.1 hx with hx | hx
    · exact h.sound e x (by simp [hx])
    · have := h.sound e ⟨t, u, p, q⟩ (by simp)
      simp only at this
      exact hke (by rw [this]) x hx
  · rcases h.root with g | g | g
    · exact .inl g
    · exact .inr (.inl (by simp [g]))
    · exact .inr (mv g)

theorem InvMm.same {W : World} {t0 u0 : Tm} {D : List (Tm × Tm)} {es : List MapEntry} (h : InvMm W t0 u0 D [] es) : ∀ t u, (t, u) ∈ D → t = u := fun t =>
  Tm.ind (P := fun t => ∀ u, (t, u) ∈ D → t = u) (fun k nm num ty fr lb ts ih u hm => by
    obtain ⟨h1, hl, h3⟩ := h.closed _ u hm
    refine tm_ext h1 (List.ext_getElem hl fun i hi hi' => ?_)
    rcases h3 i hi hi' with g | g | ⟨x, hx, _⟩
    · exact g
    · exact ih _ (List.getElem_mem hi) _ g
    · cases hx) t

theorem InvMm.done {W : World} {t0 u0 : Tm} {D : List (Tm × Tm)} {es : List MapEntry} (h : InvMm W t0 u0 D [] es) : t0 = u0 := by
  rcases h.root with g | g | ⟨x, hx, _⟩
  · exact g
  · exact h.same _ _ g
  · cases hx

theorem InvMm.start {W : World} {t u : Tm} {p q : Nat × Nat} (ht : NdAtMm W t p) (hu : NdAtMm W u q) : InvMm W t u [] [⟨t, u, p, q⟩] [] := by
  have one : ∀ it ∈ [(⟨t, u, p, q⟩ : ItMm)], it = ⟨t, u, p, q⟩ := fun it hi => by simpa using hi
  refine ⟨fun it hi => ?_, fun e he => (by cases he), (fun _ _ h => (by cases h)), fun e it hi => ?_, .inr (.inr ⟨⟨t, u, p, q⟩, by simp, rfl, rfl⟩)⟩
  · rw [one it hi]
    exact ⟨ht, hu⟩
  · rw [one it hi]
    exact e

theorem InvMm.kp {W wr : World} {t0 u0 : Tm} {D : List (Tm × Tm)} {its : List ItMm} {es : List MapEntry} {M N : Nat} {es0 es2 : Array MapEntry} {c0 c2 : Nat} (h : InvMm W t0 u0 D its es) (hx : Cy M N W wr) (hM : W.heap[M]? = some (.map es0 c0)) (hN : W.heap[N]? = some (.map es2 c2)) : KP wr es := fun e he => by
  obtain ⟨p, q, t, u, h1, h2, h3, h4, _⟩ := h.key e he
  obtain ⟨_, _, _, _, r1, _⟩ := h3.cy hx hM hN
  obtain ⟨_, _, _, _, r2, _⟩ := h4.cy hx hM hN
  exact ⟨p, q, h1, h2, r1, r2⟩

/-- The last pair taken off the list. -/
theorem row_popMm {w : World} {B g cap : Nat} {its : List ItMm} {it : ItMm} (h : w.ownsRow B 155 2 (.slice (some ⟨g, 0, none⟩) (its.length + 1) cap) (its.length + 1) (scMm (its ++ [it]))) :
    w.ownsRow B 155 2 (.slice (some ⟨g, 0, none⟩) its.length cap) its.length (scMm its) ∧ w.cell? ⟨g, its.length * 2, none⟩ = some (.pointer (some ⟨it.p.1, it.p.2, none⟩)) ∧ w.cell? ⟨g, its.length * 2 + 1, none⟩ = some (.pointer (some ⟨it.q.1, it.q.2, none⟩)) := by
  have hc := h.cells (g := g) rfl
  obtain ⟨h1, h2 | ⟨g', cap', cur, hv, hb, hg, hn, hm, hs, ht⟩⟩ := h
  · exact absurd h2.2 (by omega)
  · simp only [Value.slice.injEq, Option.some.injEq, Addr.mk.injEq, and_true, true_and] at hv
    obtain ⟨rfl, rfl⟩ := hv
    rw [sc_appendMm] at ht hc
    refine ⟨⟨sc_lenMm _, .inr ⟨g, cap, cur, rfl, hb, hg, by omega, hm, hs, ?_⟩⟩, ?_, ?_⟩
    · have : cur.toList.take (its.length * 2) = (cur.toList.take ((its.length + 1) * 2)).take (its.length * 2) := by
        rw [List.take_take]
        congr 1
        omega
      rw [this, ht, List.take_append_of_le_length (by rw [sc_lenMm]; omega), List.take_of_length_le (by rw [sc_lenMm]; omega)]
    · have := hc (its.length * 2) (.pointer (some ⟨it.p.1, it.p.2, none⟩)) (by rw [List.getElem?_append_right (by rw [sc_lenMm]; omega), sc_lenMm]; simp [scMm])
      simpa [Addr.add_lit] using this
    · have := hc (its.length * 2 + 1) (.pointer (some ⟨it.q.1, it.q.2, none⟩)) (by rw [List.getElem?_append_right (by rw [sc_lenMm]; omega), sc_lenMm]; simp [scMm, show its.length * 2 + 1 - its.length * 2 = 1 by omega])
      simpa [Addr.add_lit] using this

/-- The round of the inner loop: one pair more. -/
theorem sc_takeMm {x1 y1 x2 y2 : Nat} {its : List ItMm} {ts us : List Tm} {j : Nat} (hl : ts.length = us.length) (hj : j < ts.length) :
    scMm (its ++ (kidsMm x1 y1 x2 y2 0 ts us).take (j + 1)) = scMm (its ++ (kidsMm x1 y1 x2 y2 0 ts us).take j) ++ [.pointer (some ⟨x1, y1 + j * 9, none⟩), .pointer (some ⟨x2, y2 + j * 9, none⟩)] := by
  have hk : j < (kidsMm x1 y1 x2 y2 0 ts us).length := by rw [kids_lenMm hl]; exact hj
  rw [List.take_succ_eq_append_getElem hk, ← List.append_assoc, sc_appendMm, kids_getMm hl hj (by omega) hk]
  simp [scMm]

end Go.Proofs.YtffmpjcjmffdeaaDoor

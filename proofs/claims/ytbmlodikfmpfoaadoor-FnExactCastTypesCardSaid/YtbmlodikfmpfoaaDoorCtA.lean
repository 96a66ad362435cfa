/- The types of the casts with a label: the list that both sides build; two elements at once at a list's end. The specification's CastTypes: l4CastTypes. The program's CastTypes: the visit of one cast. CastTypes, of both sides. -/
import Derived.Test.YtbmlodikfmpfoaaDoorEcJ
import Derived.Test.YtbmlodikfmpfoaaDoorC4
import Derived.Test.YtbmlodikfmpfoaaDoorCopy
import Derived.Test.YtbmlodikfmpfoaaDoorRgL
namespace Go.Proofs.YtbmlodikfmpfoaaDoor
open Go.RowKit

/-- One visit of a cast. -/
def ctStep (lab : Int) (a : List Ty) : Tm → List Ty
  | .mk _ _ _ ty fr lb _ => if lb = lab then a ++ [fr, ty] else a

theorem ctStep_len (lab : Int) : ∀ (a : List Ty) (t : Tm), (ctStep lab a t).length ≤ a.length + 2
  | a, .mk _ _ _ ty fr lb _ => by
    simp only [ctStep]
    split <;> simp

/-- A row that has been appended to, whose elements read as the trees. -/
theorem GrowT.fin {B : Nat} {ds : List Ty} {v : Value} {fp : List Nat} {xs : List Value} {w1 w2 w3 : World} {g cap n : Nat}
    (ha : AtXs w1 ds xs fp) (hf : Fresh B w1 fp) (hne : ∀ b ∈ fp, some b ≠ v.ownBlock) (h2 : Below w1.heap.size w1 w2) (hg : w2.grownBy w3 v.ownBlock) (h3 : w3.ownsRow B 31 2 (.slice (some ⟨g, 0, none⟩) n cap) n xs)
    (hnn : n = ds.length) (hat : v.ownBlock = some g ∨ g = w2.heap.size) : GrowT B ds (.slice (some ⟨g, 0, none⟩) n cap) fp w3 := by
  subst hnn
  have hk : ∀ b ∈ fp, w3.heap[b]? = w1.heap[b]? := fun b hb => by
    rw [hg.block b (Nat.lt_of_lt_of_le (hf.2 b hb).2.1 h2.size) (hne b hb), h2.block b (hf.2 b hb).2.1]
  refine ⟨xs, h3, ha.congr fun b hb o => World.cell?_of_block (w := w1) (a := ⟨b, o, none⟩) (hk b hb), ⟨hf.1, fun b hb => ⟨hf.ge b hb, Nat.lt_of_lt_of_le (hf.2 b hb).2.1 (Nat.le_trans h2.size hg.size), fun o => (World.frozen?_of_block (w := w1) (a := ⟨b, o, none⟩) (hk b hb)).trans ((hf.2 b hb).2.2 o)⟩⟩, fun b hb hm => ?_⟩
  obtain rfl : g = b := by simpa [Value.ownBlock] using hb
  rcases hat with hat | hat
  · exact hne g hm hat.symm
  · have := (hf.2 g hm).2.1
    have := h2.size
    omega

/-- Two fresh trees beside a list's own. -/
theorem two_fresh {B : Nat} {ds : List Ty} {v : Value} {xs : List Value} {w0 w1 w2 wA : World} {fp fa g1 g2 : List Nat} {x y : Ty} {x0 x1 y0 y1 : Value} (hG : GrowT B ds v fa w0) (hb1 : Below w0.heap.size w0 w1) (hb2 : Below w1.heap.size w1 w2) (hbA : Below w2.heap.size w2 wA)
    (ha : AtXs wA ds xs fp) (hf : Fresh B w2 fp) (hlt : ∀ b ∈ fp, b < w0.heap.size) (hn : ∀ b, v.ownBlock = some b → b ∉ fp) (hx : x.At w1 (.agg #[x0, x1]) g1) (hfx : Fresh w0.heap.size w1 g1) (hy : y.At w2 (.agg #[y0, y1]) g2) (hfy : Fresh w1.heap.size w2 g2) (hB : B ≤ w0.heap.size) :
    AtXs wA (ds ++ [x] ++ [y]) (xs ++ [x0, x1] ++ [y0, y1]) (fp ++ g1 ++ g2) ∧ Fresh B wA (fp ++ g1 ++ g2) ∧ ∀ b ∈ fp ++ g1 ++ g2, some b ≠ v.ownBlock := by
  have s1 := hb1.size
  have s2 := hb2.size
  have hx2 := (hx.below hb2).below hbA
  have hy2 := hy.below hbA
  have hfx2 := (hfx.below hb2).below hbA
  have hfy2 := hfy.below hbA
  have hf2 := hf.below hbA
  have l1 : ∀ b ∈ g1, b < w1.heap.size := fun b hb => (hfx.2 b hb).2.1
  refine ⟨(ha.snoc hx2).snoc hy2, ⟨List.nodup_append.2 ⟨List.nodup_append.2 ⟨hf2.1, hfx2.1, fun a h b h' e => ?_⟩, hfy2.1, fun a h b h' e => ?_⟩, fun b hb => ?_⟩, fun b hb e => ?_⟩
  · have := hlt a h
    have := hfx2.ge b h'
    omega
  · have h2 := hfy2.ge b h'
    rcases List.mem_append.1 h with h | h
    · have := hlt a h
      omega
    · have := l1 a h
      omega
  · rcases List.mem_append.1 hb with hb | hb
    · rcases List.mem_append.1 hb with hb | hb
      · exact hf2.2 b hb
      · exact ⟨Nat.le_trans hB (hfx2.ge b hb), (hfx2.2 b hb).2⟩
    · exact ⟨by have := hfy2.ge b hb; omega, (hfy2.2 b hb).2⟩
  · have hv := hG.block.2 b e.symm
    rcases List.mem_append.1 hb with hb | hb
    · rcases List.mem_append.1 hb with hb | hb
      · exact hn b e.symm hb
      · have := hfx2.ge b hb
        omega
    · have := hfy2.ge b hb
      omega

theorem GrowT.two {B : Nat} {ds : List Ty} {v : Value} {fp : List Nat} {xs : List Value} {w0 w1 w2 wA w3 : World} {g1 g2 : List Nat} {x y : Ty} {x0 x1 y0 y1 : Value} {g cap n : Nat} (hG : GrowT B ds v fp w0) (hb2 : Below w1.heap.size w1 w2) (hB1 : Below w0.heap.size w0 w1)
    (ha : AtXs w2 ds xs fp) (hf : Fresh B w2 fp) (hn : ∀ b, v.ownBlock = some b → b ∉ fp) (hx : x.At w1 (.agg #[x0, x1]) g1) (hfx : Fresh w0.drew.heap.size w1 g1) (hy : y.At w2 (.agg #[y0, y1]) g2) (hfy : Fresh w1.heap.size w2 g2) (hB : B ≤ w0.heap.size)
    (hA : Below w2.heap.size w2 wA) (hg : wA.grownBy w3 v.ownBlock) (h3 : w3.ownsRow B 31 2 (.slice (some ⟨g, 0, none⟩) n cap) n (xs ++ [x0, x1, y0, y1])) (hnn : n = ds.length + 2) (hat : v.ownBlock = some g ∨ g = wA.heap.size) :
    ∃ fp', GrowT B (ds ++ [x, y]) (.slice (some ⟨g, 0, none⟩) n cap) fp' w3 := by
  obtain ⟨q1, q2, q3⟩ := two_fresh (wA := w2) hG hB1 hb2 (Below.refl _ _) ha hf hG.block.1 hn hx hfx hy hfy hB
  have := GrowT.fin q1 q2 q3 hA hg (by simpa using h3) (by simpa using hnn) hat
  exact ⟨_, by simpa using this⟩

/-- A row's element cell written. -/
theorem own_set {w : World} {B g n cap o : Nat} {T : TypeId} {xs : List Value} (h : w.ownsRow B T 2 (.slice (some ⟨g, 0, none⟩) n cap) n xs) (u : Value) :
    (w.setCell ⟨g, o, none⟩ u).ownsRow B T 2 (.slice (some ⟨g, 0, none⟩) n cap) n (xs.set o u) := by
  obtain ⟨h1, h2⟩ := h
  refine ⟨by simpa using h1, ?_⟩
  rcases h2 with ⟨h0, _⟩ | ⟨g', cap', cur, e, hb, hg, hc, hm, hsz, hx⟩
  · cases h0
  · cases e
    refine .inr ⟨g, cap, _, rfl, hb, heap_setCell_at hg u, hc, hm, by simp [hsz], ?_⟩
    simp only [Array.toList_setIfInBounds]
    rw [List.take_set, hx]

theorem own_fill4 {w : World} {B g n cap : Nat} {T : TypeId} {xs : List Value} {z0 z1 z2 z3 : Value} (h : w.ownsRow B T 2 (.slice (some ⟨g, 0, none⟩) (n + 2) cap) (n + 2) (xs ++ [z0, z1, z2, z3])) (x y z u : Value) :
    ((((w.setCell ⟨g, n * 2, none⟩ x).setCell ⟨g, n * 2 + 1, none⟩ y).setCell ⟨g, (n + 1) * 2, none⟩ z).setCell ⟨g, (n + 1) * 2 + 1, none⟩ u).ownsRow B T 2 (.slice (some ⟨g, 0, none⟩) (n + 2) cap) (n + 2) (xs ++ [x, y, z, u]) := by
  have hxl : xs.length = n * 2 := by have := h.1; simp at this; omega
  have h4 := own_set (own_set (own_set (own_set h (o := n * 2) x) (o := n * 2 + 1) y) (o := (n + 1) * 2) z) (o := (n + 1) * 2 + 1) u
  rw [List.set_append_right _ _ (by omega), List.set_append_right _ _ (by omega), List.set_append_right _ _ (by omega), List.set_append_right _ _ (by omega), show n * 2 - xs.length = 0 by omega, show n * 2 + 1 - xs.length = 1 by omega, show (n + 1) * 2 - xs.length = 2 by omega, show (n + 1) * 2 + 1 - xs.length = 3 by omega] at h4
  exact h4

theorem own_last4 {w : World} {B g n cap : Nat} {T : TypeId} {xs : List Value} (h : w.ownsRow B T 2 (.slice (some ⟨g, 0, none⟩) (n + 2) cap) (n + 2) xs) :
    (∃ a b c d, w.cell? ⟨g, n * 2, none⟩ = some a ∧ w.cell? ⟨g, n * 2 + 1, none⟩ = some b ∧ w.cell? ⟨g, (n + 1) * 2, none⟩ = some c ∧ w.cell? ⟨g, (n + 1) * 2 + 1, none⟩ = some d) ∧ ∀ o, w.frozen? ⟨g, o, none⟩ = false := by
  rcases h.2 with ⟨h0, _⟩ | ⟨g', cap', cur, e, hb, hg, hc, hm, hsz, hx⟩
  · cases h0
  · cases e
    refine ⟨⟨cur[n * 2]'(by omega), cur[n * 2 + 1]'(by omega), cur[(n + 1) * 2]'(by omega), cur[(n + 1) * 2 + 1]'(by omega), ?_, ?_, ?_, ?_⟩, fun o => frozen_of_block hg⟩
    all_goals
      rw [cell_of_block hg]; exact Array.getElem?_eq_getElem _

theorem cell_setCell_off (w : World) (g a b : Nat) (u : Value) (h : a ≠ b) : (w.setCell ⟨g, a, none⟩ u).cell? ⟨g, b, none⟩ = w.cell? ⟨g, b, none⟩ := by
  simp only [World.setCell, World.cell?, Array.getElem?_modify]
  cases hw : w.heap[g]? with
  | none => rfl
  | some o =>
    cases o with
    | cells C T fz =>
      simp [Array.getElem?_setIfInBounds_ne h]
    | _ => rfl

theorem setCell_swap (w : World) (g a b : Nat) (u v : Value) (h : a ≠ b) : (w.setCell ⟨g, a, none⟩ u).setCell ⟨g, b, none⟩ v = (w.setCell ⟨g, b, none⟩ v).setCell ⟨g, a, none⟩ u := by
  simp only [World.setCell]
  congr 1
  apply Array.ext_getElem?
  intro i
  simp only [Array.getElem?_modify]
  by_cases h1 : g = i
  · subst h1
    simp only [if_true]
    cases hw : w.heap[g]? with
    | none => rfl
    | some o =>
      cases o with
      | cells C T fz =>
        simp only [Option.map_some, Option.some.injEq, Obj.cells.injEq, and_true]
        exact Array.setIfInBounds_comm _ _ h
      | _ => rfl
  · simp only [if_neg h1]

/-- What the visit leaves behind its stores. -/
theorem visit_close4 {w w0 w1 w2 wA w3 : World} {M B g3 cp : Nat} {ds : List Ty} {t1 t2 : Ty} {v vold x0 x1 y0 y1 z0 z1 z2 z3 : Value} {g g1 g2 : List Nat} {xs : List Value} (hO : w0.heap[M]? = some (.cells #[vold] 29 (0, 0))) (hG1 : GrowT B ds v g w0)
    (hB1 : Below w0.heap.size w0 w1) (hb2 : Below w1.heap.size w1 w2) (ha1 : AtXs w2 ds xs g) (hf1 : Fresh B w2 g) (hn1 : ∀ b, v.ownBlock = some b → b ∉ g) (hx : t1.At w1 (.agg #[x0, x1]) g1) (hfx : Fresh w0.heap.size w1 g1) (hy : t2.At w2 (.agg #[y0, y1]) g2) (hfy : Fresh w1.heap.size w2 g2) (hA : Below w2.heap.size w2 wA)
    (hgrow : wA.grownBy w3 v.ownBlock) (hown3 : w3.ownsRow B 31 2 (.slice (some ⟨g3, 0, none⟩) (ds.length + 2) cp) (ds.length + 2) (xs ++ [z0, z1, z2, z3])) (hat4 : v.ownBlock = some g3 ∨ g3 = wA.heap.size) (hMB : M < B) (hBw : B ≤ w0.heap.size) (hb0 : Below w.heap.size w w0) :
    ListAt M B (ds ++ [t1, t2]) (.slice (some ⟨g3, 0, none⟩) (ds.length + 2) cp) (((((w3.setCell ⟨g3, ds.length * 2, none⟩ x0).setCell ⟨g3, ds.length * 2 + 1, none⟩ x1).setCell ⟨g3, (ds.length + 1) * 2, none⟩ y0).setCell ⟨g3, (ds.length + 1) * 2 + 1, none⟩ y1).setCell ⟨M, 0, none⟩ (.slice (some ⟨g3, 0, none⟩) (ds.length + 2) cp)) ∧
      Lr M w (((((w3.setCell ⟨g3, ds.length * 2, none⟩ x0).setCell ⟨g3, ds.length * 2 + 1, none⟩ x1).setCell ⟨g3, (ds.length + 1) * 2, none⟩ y0).setCell ⟨g3, (ds.length + 1) * 2 + 1, none⟩ y1).setCell ⟨M, 0, none⟩ (.slice (some ⟨g3, 0, none⟩) (ds.length + 2) cp)) v (.slice (some ⟨g3, 0, none⟩) (ds.length + 2) cp) := by
  have hs : v.ownBlock = some g3 ∨ wA.heap.size ≤ g3 := hat4.imp id (fun h => by omega)
  have hgw : wA.grownBy ((((w3.setCell ⟨g3, ds.length * 2, none⟩ x0).setCell ⟨g3, ds.length * 2 + 1, none⟩ x1).setCell ⟨g3, (ds.length + 1) * 2, none⟩ y0).setCell ⟨g3, (ds.length + 1) * 2 + 1, none⟩ y1) v.ownBlock :=
    grown_store (grown_store (grown_store (grown_store hgrow hs x0) hs x1) hs y0) hs y1
  obtain ⟨q1, q2, q3⟩ := two_fresh (wA := w2) hG1 hB1 hb2 (Below.refl _ _) ha1 hf1 hG1.block.1 hn1 hx hfx hy hfy hBw
  have hG4 := GrowT.fin q1 q2 q3 hA hgw (by simpa using own_fill4 hown3 x0 x1 y0 y1) (by simp) hat4
  have hMo : some M ≠ v.ownBlock := fun e => by have := (hG1.own_ge M e.symm).1; omega
  have hB2 := below_trans (below_trans hB1 hb2) hA
  have hM2 := blk hO hB2
  have hM4 := (hgw.block M (lt_of_block hM2) hMo).trans hM2
  have s0 := hb0.size
  have s1 := hB2.size
  refine ⟨⟨_, heap_setCell_at hM4 _, by simpa using hG4.setCell (p := ⟨M, 0, none⟩) hMB _, hMB⟩, ⟨⟨?_, ?_, ?_, ?_⟩, fun k hk hkM hn => ?_, ?_⟩⟩
  · exact hgw.os.trans (hB2.os.trans hb0.os)
  · exact hgw.tape.trans (hB2.tape.trans hb0.tape)
  · exact hgw.output.trans (hB2.output.trans hb0.output)
  · have := hgw.size
    rw [size_setCell]
    omega
  · rw [Below.heap_setCell _ _ _ _ hkM, hgw.block k (by omega) hn, hB2.block k (by omega), hb0.block k hk]
  · rcases hat4 with h | h
    · exact .inl h.symm
    · exact .inr ⟨g3, rfl, by omega⟩

def CtsC (lab : Int) (t : Tm) : Prop := ∀ (B : Nat) (ds : List Ty) (v : Value) (g : List Nat) (tv : Value) (fp : List Nat) (w : World), GrowT B ds v g w → t.At w tv fp → (∀ x ∈ fp, x < B) → B ≤ w.heap.size → t.sz ≤ 1048576 → ds.length + 2 * (t.sz + 1) ≤ 4194300 →
  Calls Tryd.prog 65 #[v, tv, .int .i64 lab] w fun e w' => ∃ v' g', e = .returned v' ∧ GrowT B (ecN (ctStep lab) ds t) v' g' w' ∧ Gr w w' v v'

set_option linter.unusedSimpArgs false in
set_option maxRecDepth 100000 in
set_option maxHeartbeats 4000000 in
theorem l4CastTypes_of (lab : Int) (k : Int) (nm : ByteArray) (num : Int) (ty fr : Ty) (lb : Int) (ts : List Tm) (ih : ∀ t ∈ ts, CtsC lab t) : CtsC lab (.mk k nm num ty fr lb ts) := by
  intro B ds v g tv fp w hG hat hlt hBw hsz hln
  have HIH := hid ih
  clear ih
  obtain ⟨k1, n1, a1, c1, k2, n2, a2, c2, a3, c3, f1, f2, f3, rfl, hnm, ht1, ht2, rfl, hs⟩ := hat.parts
  have hlt3 : ∀ x ∈ f3, x < B := fun x hx => hlt x (by simp [hx])
  have HS3 := hid hlt3
  obtain ⟨a, cap, hss, hc, hm, hget⟩ := hs.open
  cases hss
  have hblk : ∀ b o, a3 = some ⟨b, o, none⟩ → 0 < ts.length → b ∈ f3 := fun b o e hp => by
    rcases hs with ⟨h0, _⟩ | ⟨b', o', cap', f, e', _, _, _, _, rfl⟩
    · rw [h0] at hp; simp at hp
    · rw [e] at e'
      cases e'
      simp
  have HBK := hid hblk
  have HG := hid hget
  obtain ⟨av, capv, rfl⟩ := hG.shape
  have HOWN := hid hG.own_ge
  have hb0 : ∀ kx : Int, Below w.heap.size w (w.alloc (Obj.cells #[.int .i64 kx, .string nm, .int .i64 num, .int .i64 k1, .slice a1 n1 c1, .int .i64 k2, .slice a2 n2 c2, .int .i64 lb, .slice a3 ts.length c3] 34)) := fun _ => (Below.refl _ _).alloc (Nat.le_refl _) _
  obtain ⟨i0, hi0, hz0, hz1, hz2⟩ := info_parts (P := Tryd.prog) (e := 31) Tryd.infoElem
  have HSZ := hid (show (ty.cnt ≤ 1048576 ∧ fr.cnt ≤ 1048576) ∧ ts.length + szML ts ≤ 1048576 by simp only [Tm.sz] at hsz; omega)
  have hMo : some w.heap.size ≠ (Value.slice av ds.length capv).ownBlock := fun e => by have := HOWN.out _ e.symm; omega
  have HMO := hid hMo
  have HEC := hid (show ecN (ctStep lab) ds (.mk k nm num ty fr lb ts) = ecL (ctStep lab) (if k = 14 then (if lb = lab then ds ++ [fr, ty] else ds) else ds) ts by rw [ecN]; rfl)
  have HLN := hid (show (if k = 14 then (if lb = lab then ds ++ [fr, ty] else ds) else ds).length + 2 * (ts.length + szML ts) ≤ 4194300 by
    simp only [Tm.sz] at hln
    repeat' split
    all_goals (try simp only [List.length_append, List.length_cons, List.length_nil])
    all_goals omega)
  have hdl : ds.length ≤ 4194300 := by omega
  clear hget hat hsz hblk hlt hln hMo hs hlt3
  by_cases hk : k = 14
  · subst hk
    rw [if_pos rfl] at HEC HLN
    by_cases hl : lb = lab
    · subst hl
      rw [if_pos rfl] at HEC HLN
      have HFR := hid (ht2.below (hb0 14))
      have HTY := hid (ht1.below (hb0 14))
      have HGW := hid (hG.below (hb0 14))
      have h63 : ds.length + 2 ≤ maxLen := by unfold maxLen; omega
      have hby : (ds.length + 2) * 32 ≤ 140737488355328 := by omega
      obtain ⟨z0, z1, z2, z3, z4, z5, z6, z7, z8⟩ := box9 (Below.refl (w.alloc (Obj.cells #[.int .i64 14, .string nm, .int .i64 num, .int .i64 k1, .slice a1 n1 c1, .int .i64 k2, .slice a2 n2 c2, .int .i64 lb, .slice a3 ts.length c3] 34)).heap.size (w.alloc (Obj.cells #[.int .i64 14, .string nm, .int .i64 num, .int .i64 k1, .slice a1 n1 c1, .int .i64 k2, .slice a2 n2 c2, .int .i64 lb, .slice a3 ts.length c3] 34)))
      have hnn : (ds.length : Int) < (ds.length : Int) + 2 := by omega
      go_enter Tryd.func65, Tryd.ntmps65
      go_wp2_with fail
      go_region_law (first | (go_simp; go_at_call_of 105 (Value.agg #[.int .i64 k2, .slice a2 n2 c2]); refine (l1Copy_any fr _ f2 _ (HFR.out.below (below_drew _)) HSZ.out.1.2).mono ?_; rintro e w1 ⟨v1, g1, rfl, hat1', hf1', hb1⟩; obtain ⟨kk1, nn1, aa1, cc1, rfl⟩ := hat1'.agg; have hB1 := below_trans (below_drew _) hb1; have y3 := cell_keep z3 hB1; have y4 := cell_keep z4 hB1) | (go_simp; go_at_call_of 105 (Value.agg #[.int .i64 k1, .slice a1 n1 c1]); refine (l1Copy_any ty _ f1 _ (HTY.out.below hB1) HSZ.out.1.1).mono ?_; rintro e w2 ⟨v2, g2, rfl, hat2', hf2', hb2⟩; obtain ⟨kk2, nn2, aa2, cc2, rfl⟩ := hat2'.agg; have hB2 := below_trans hB1 hb2; obtain ⟨xs, ho1, ha1, hfx1, hn1⟩ := HGW.out.below hB2; have hM1 : B ≤ w2.heap.size := Nat.le_trans hBw (Nat.le_trans (hb0 14).size hB2.size)) | (refine step_append_lies _ (by rfl) _ _ _ (by rfl) B 31 i0 _ 2 32 Tryd.underElems hi0 hz0 hz1 hz2 rfl (by omega) (.slice av ds.length capv) ds.length xs (by rfl) (ho1.alloc _) ⟨w2.heap.size, 0, none⟩ 2 2 [.int .i64 kk1, .slice aa1 nn1 cc1, .int .i64 kk2, .slice aa2 nn2 cc2] (by rfl) (by rfl) (World.news_of_block (cs := #[.int .i64 kk1, .slice aa1 nn1 cc1, .int .i64 kk2, .slice aa2 nn2 cc2]) (t := 31) (fr := (0, 0)) (heap_alloc_new w2 _)) (by simp [Value.oneCell']) (by omega) h63 hby (by simp; omega) (w2.heap.size + 1) (by simp) ?_; intro g3 cp w3 hown3 hgrow hat3 hlt3))
      all_goals
        obtain ⟨fp9, hG9⟩ := (GrowT.two HGW.out hb2 hB1 ha1 hfx1 hn1 hat1' hf1' hat2' hf2' (Nat.le_trans hBw (hb0 14).size) ((Below.refl w2.heap.size w2).alloc (Nat.le_refl _) (Obj.cells #[.int .i64 kk1, .slice aa1 nn1 cc1, .int .i64 kk2, .slice aa2 nn2 cc2] 31)) hgrow hown3 rfl (by simpa using hat3))
        have HG3 := hid hG9
        have HGR := hid (Gr.append (n := ds.length + 2) (cap := cp) hB2 hgrow hat3)
        have hbx := HGR.out.heap (M := w.heap.size) (alloc_new _ _) HMO.out
        clear z0 z1 z2 z3 z4 z5 z6 z7 z8 y3 y4 ho1 ha1 hfx1 hn1 hat1' hf1' hat2' hf2' hb1 hb2 hB1 hB2 hgrow hown3 hat3 hlt3 hG9
        obtain ⟨z0, z1, z2, z3, z4, z5, z6, z7, z8⟩ := cells9 hbx
        clear hbx
        go_wp2_with fail
        go_loopw [0, 7] (fun out i wr => ∃ (j : Nat) (v' : Value) (g' : List Nat), j ≤ ts.length ∧ i = .int .i64 j ∧ out = v' ∧ GrowT B (ecL (ctStep lb) (ds ++ [fr, ty]) (ts.take j)) v' g' wr ∧ Gr (w.alloc (Obj.cells #[.int .i64 14, .string nm, .int .i64 num, .int .i64 k1, .slice a1 n1 c1, .int .i64 k2, .slice a2 n2 c2, .int .i64 lb, .slice a3 ts.length c3] 34)) wr (.slice av ds.length capv) v') (fun _ i _ => ts.length - (intOf i).toNat)
        case atStart => exact ⟨0, _, _, Nat.zero_le _, rfl, rfl, by simpa [ecL] using HG3.out, HGR.out⟩
        case round =>
          obtain ⟨j, v', g', hj, rfl, hout, hG4, hgr⟩ := hrel
          have hzb := hgr.heap (M := w.heap.size) (alloc_new _ _) HMO.out
          obtain ⟨z0, z1, z2, z3, z4, z5, z6, z7, z8⟩ := cells9 hzb
          obtain ⟨av', nv', capv', hshape⟩ : ∃ a n c, v' = .slice a n c := by obtain ⟨a, c, h⟩ := hG4.shape; exact ⟨a, _, c, h⟩
          subst hshape
          subst hout
          have HGR4 := hid hgr
          have HG4 := hid hG4
          have hBr : B ≤ wr.heap.size := Nat.le_trans (Nat.le_trans hBw (hb0 14).size) hgr.size
          clear hgr hG4 hzb
          by_cases hlk : j < ts.length
          · obtain ⟨b, o, q0, q1, q2, q3, q4, q5, q6, q7, q8, q9, q10, q11, q12, q13, q14, g1, hab, hblt, e0, e1, e2, e3, e4, e5, e6, e7, e8, hat, hf⟩ := HG.out j hlk
            have hbB : b < B := HS3.out b (HBK.out b o hab (by omega))
            have hnb : some b ≠ (Value.slice av ds.length capv).ownBlock := fun e => by have := HOWN.out _ e.symm; omega
            subst hab
            have hat' : Tm.At wr ts[j] _ g1 := HGR4.out.tm (hat.below (hb0 14)) (fun x hx e => by have := HOWN.out _ e.symm; have := HS3.out x (hf x hx); omega)
            replace e0 := HGR4.out.cell (cell_keep e0 (hb0 14)) hnb
            replace e1 := HGR4.out.cell (cell_keep e1 (hb0 14)) hnb
            replace e2 := HGR4.out.cell (cell_keep e2 (hb0 14)) hnb
            replace e3 := HGR4.out.cell (cell_keep e3 (hb0 14)) hnb
            replace e4 := HGR4.out.cell (cell_keep e4 (hb0 14)) hnb
            replace e5 := HGR4.out.cell (cell_keep e5 (hb0 14)) hnb
            replace e6 := HGR4.out.cell (cell_keep e6 (hb0 14)) hnb
            replace e7 := HGR4.out.cell (cell_keep e7 (hb0 14)) hnb
            replace e8 := HGR4.out.cell (cell_keep e8 (hb0 14)) hnb
            have HTK := hid (ecL_take (ctStep lb) ts (ds ++ [fr, ty]) j hlk)
            have hl2 : (ecL (ctStep lb) (ds ++ [fr, ty]) (ts.take j)).length + 2 * (ts[j].sz + 1) ≤ 4194300 := Nat.le_trans (ecL_take_len (ctStep lb) List.length (ctStep_len lb) ts (ds ++ [fr, ty]) j hlk) HLN.out
            have hszj : ts[j].sz ≤ 1048576 := by have := HSZ.out.2; have := sz_mem (List.getElem_mem hlk); omega
            have HFJ := hid (show ∀ x ∈ g1, x < B from fun x hx => HS3.out x (hf x hx))
            have HL2 := hid hl2
            clear hat hf hl2
            go_wp2_with fail
            refine (HIH.out _ (List.getElem_mem hlk) B _ _ _ _ g1 _ HG4.out hat' HFJ.out hBr hszj HL2.out).mono ?_
            rintro e w4 ⟨v5, g5, rfl, hG5, hgr5⟩
            have HG5 := hid hG5
            have HGR5 := hid (HGR4.out.trans hgr5)
            clear hG5 hgr5 e0 e1 e2 e3 e4 e5 e6 e7 e8 z0 z1 z2 z3 z4 z5 z6 z7 z8 hat'
            go_wp2_with fail
            go_roundw
            case rel => exact ⟨j + 1, _, g5, by omega, by go_num, rfl, by rw [HTK.out]; exact HG5.out, HGR5.out⟩
            case measure => simp [intOf]; omega
          · have hz : ts.take j = ts := List.take_of_length_le (by omega)
            have HZ := hid hz
            clear hz
            go_wp2_with fail
            go_ret
            refine ⟨_, g', rfl, ?_, (Gr.of_below (hb0 14) _).trans HGR4.out⟩
            have := HG4.out
            rw [HZ.out] at this
            rw [HEC.out]
            exact this
    · rw [if_neg hl] at HEC HLN
      have hl' : (lb == lab) = false := by simpa using hl
      have HG3 := hid (hG.below (hb0 14))
      have HGR := hid (Gr.refl (w.alloc (Obj.cells #[.int .i64 14, .string nm, .int .i64 num, .int .i64 k1, .slice a1 n1 c1, .int .i64 k2, .slice a2 n2 c2, .int .i64 lb, .slice a3 ts.length c3] 34)) (.slice av ds.length capv))
      go_enter Tryd.func65, Tryd.ntmps65
      go_wp2_with fail
      go_loopw [0, 7] (fun out i wr => ∃ (j : Nat) (v' : Value) (g' : List Nat), j ≤ ts.length ∧ i = .int .i64 j ∧ out = v' ∧ GrowT B (ecL (ctStep lab) ds (ts.take j)) v' g' wr ∧ Gr (w.alloc (Obj.cells #[.int .i64 14, .string nm, .int .i64 num, .int .i64 k1, .slice a1 n1 c1, .int .i64 k2, .slice a2 n2 c2, .int .i64 lb, .slice a3 ts.length c3] 34)) wr (.slice av ds.length capv) v') (fun _ i _ => ts.length - (intOf i).toNat)
      case atStart => exact ⟨0, _, _, Nat.zero_le _, rfl, rfl, by simpa [ecL] using HG3.out, HGR.out⟩
      case round =>
        obtain ⟨j, v', g', hj, rfl, hout, hG4, hgr⟩ := hrel
        have hzb := hgr.heap (M := w.heap.size) (alloc_new _ _) HMO.out
        obtain ⟨z0, z1, z2, z3, z4, z5, z6, z7, z8⟩ := cells9 hzb
        obtain ⟨av', nv', capv', hshape⟩ : ∃ a n c, v' = .slice a n c := by obtain ⟨a, c, h⟩ := hG4.shape; exact ⟨a, _, c, h⟩
        subst hshape
        subst hout
        have HGR4 := hid hgr
        have HG4 := hid hG4
        have hBr : B ≤ wr.heap.size := Nat.le_trans (Nat.le_trans hBw (hb0 14).size) hgr.size
        clear hgr hG4 hzb
        by_cases hlk : j < ts.length
        · obtain ⟨b, o, q0, q1, q2, q3, q4, q5, q6, q7, q8, q9, q10, q11, q12, q13, q14, g1, hab, hblt, e0, e1, e2, e3, e4, e5, e6, e7, e8, hat, hf⟩ := HG.out j hlk
          have hbB : b < B := HS3.out b (HBK.out b o hab (by omega))
          have hnb : some b ≠ (Value.slice av ds.length capv).ownBlock := fun e => by have := HOWN.out _ e.symm; omega
          subst hab
          have hat' : Tm.At wr ts[j] _ g1 := HGR4.out.tm (hat.below (hb0 14)) (fun x hx e => by have := HOWN.out _ e.symm; have := HS3.out x (hf x hx); omega)
          replace e0 := HGR4.out.cell (cell_keep e0 (hb0 14)) hnb
          replace e1 := HGR4.out.cell (cell_keep e1 (hb0 14)) hnb
          replace e2 := HGR4.out.cell (cell_keep e2 (hb0 14)) hnb
          replace e3 := HGR4.out.cell (cell_keep e3 (hb0 14)) hnb
          replace e4 := HGR4.out.cell (cell_keep e4 (hb0 14)) hnb
          replace e5 := HGR4.out.cell (cell_keep e5 (hb0 14)) hnb
          replace e6 := HGR4.out.cell (cell_keep e6 (hb0 14)) hnb
          replace e7 := HGR4.out.cell (cell_keep e7 (hb0 14)) hnb
          replace e8 := HGR4.out.cell (cell_keep e8 (hb0 14)) hnb
          have HTK := hid (ecL_take (ctStep lab) ts ds j hlk)
          have hl2 : (ecL (ctStep lab) ds (ts.take j)).length + 2 * (ts[j].sz + 1) ≤ 4194300 := Nat.le_trans (ecL_take_len (ctStep lab) List.length (ctStep_len lab) ts ds j hlk) HLN.out
          have hszj : ts[j].sz ≤ 1048576 := by have := HSZ.out.2; have := sz_mem (List.getElem_mem hlk); omega
          have HFJ := hid (show ∀ x ∈ g1, x < B from fun x hx => HS3.out x (hf x hx))
          have HL2 := hid hl2
          clear hat hf hl2
          go_wp2_with fail
          refine (HIH.out _ (List.getElem_mem hlk) B _ _ _ _ g1 _ HG4.out hat' HFJ.out hBr hszj HL2.out).mono ?_
          rintro e w4 ⟨v5, g5, rfl, hG5, hgr5⟩
          have HG5 := hid hG5
          have HGR5 := hid (HGR4.out.trans hgr5)
          clear hG5 hgr5 e0 e1 e2 e3 e4 e5 e6 e7 e8 z0 z1 z2 z3 z4 z5 z6 z7 z8 hat'
          go_wp2_with fail
          go_roundw
          case rel => exact ⟨j + 1, _, g5, by omega, by go_num, rfl, by rw [HTK.out]; exact HG5.out, HGR5.out⟩
          case measure => simp [intOf]; omega
        · have hz : ts.take j = ts := List.take_of_length_le (by omega)
          have HZ := hid hz
          clear hz
          go_wp2_with fail
          go_ret
          refine ⟨_, g', rfl, ?_, (Gr.of_below (hb0 14) _).trans HGR4.out⟩
          have := HG4.out
          rw [HZ.out] at this
          rw [HEC.out]
          exact this
  · rw [if_neg hk] at HEC HLN
    have hk' : (k == 14) = false := by simpa using hk
    have HG3 := hid (hG.below (hb0 k))
    have HGR := hid (Gr.refl (w.alloc (Obj.cells #[.int .i64 k, .string nm, .int .i64 num, .int .i64 k1, .slice a1 n1 c1, .int .i64 k2, .slice a2 n2 c2, .int .i64 lb, .slice a3 ts.length c3] 34)) (.slice av ds.length capv))
    go_enter Tryd.func65, Tryd.ntmps65
    go_wp2_with fail
    go_loopw [0, 7] (fun out i wr => ∃ (j : Nat) (v' : Value) (g' : List Nat), j ≤ ts.length ∧ i = .int .i64 j ∧ out = v' ∧ GrowT B (ecL (ctStep lab) ds (ts.take j)) v' g' wr ∧ Gr (w.alloc (Obj.cells #[.int .i64 k, .string nm, .int .i64 num, .int .i64 k1, .slice a1 n1 c1, .int .i64 k2, .slice a2 n2 c2, .int .i64 lb, .slice a3 ts.length c3] 34)) wr (.slice av ds.length capv) v') (fun _ i _ => ts.length - (intOf i).toNat)
    case atStart => exact ⟨0, _, _, Nat.zero_le _, rfl, rfl, by simpa [ecL] using HG3.out, HGR.out⟩
    case round =>
      obtain ⟨j, v', g', hj, rfl, hout, hG4, hgr⟩ := hrel
      have hzb := hgr.heap (M := w.heap.size) (alloc_new _ _) HMO.out
      obtain ⟨z0, z1, z2, z3, z4, z5, z6, z7, z8⟩ := cells9 hzb
      obtain ⟨av', nv', capv', hshape⟩ : ∃ a n c, v' = .slice a n c := by obtain ⟨a, c, h⟩ := hG4.shape; exact ⟨a, _, c, h⟩
      subst hshape
      subst hout
      have HGR4 := hid hgr
      have HG4 := hid hG4
      have hBr : B ≤ wr.heap.size := Nat.le_trans (Nat.le_trans hBw (hb0 k).size) hgr.size
      clear hgr hG4 hzb
      by_cases hlk : j < ts.length
      · obtain ⟨b, o, q0, q1, q2, q3, q4, q5, q6, q7, q8, q9, q10, q11, q12, q13, q14, g1, hab, hblt, e0, e1, e2, e3, e4, e5, e6, e7, e8, hat, hf⟩ := HG.out j hlk
        have hbB : b < B := HS3.out b (HBK.out b o hab (by omega))
        have hnb : some b ≠ (Value.slice av ds.length capv).ownBlock := fun e => by have := HOWN.out _ e.symm; omega
        subst hab
        have hat' : Tm.At wr ts[j] _ g1 := HGR4.out.tm (hat.below (hb0 k)) (fun x hx e => by have := HOWN.out _ e.symm; have := HS3.out x (hf x hx); omega)
        replace e0 := HGR4.out.cell (cell_keep e0 (hb0 k)) hnb
        replace e1 := HGR4.out.cell (cell_keep e1 (hb0 k)) hnb
        replace e2 := HGR4.out.cell (cell_keep e2 (hb0 k)) hnb
        replace e3 := HGR4.out.cell (cell_keep e3 (hb0 k)) hnb
        replace e4 := HGR4.out.cell (cell_keep e4 (hb0 k)) hnb
        replace e5 := HGR4.out.cell (cell_keep e5 (hb0 k)) hnb
        replace e6 := HGR4.out.cell (cell_keep e6 (hb0 k)) hnb
        replace e7 := HGR4.out.cell (cell_keep e7 (hb0 k)) hnb
        replace e8 := HGR4.out.cell (cell_keep e8 (hb0 k)) hnb
        have HTK := hid (ecL_take (ctStep lab) ts ds j hlk)
        have hl2 : (ecL (ctStep lab) ds (ts.take j)).length + 2 * (ts[j].sz + 1) ≤ 4194300 := Nat.le_trans (ecL_take_len (ctStep lab) List.length (ctStep_len lab) ts ds j hlk) HLN.out
        have hszj : ts[j].sz ≤ 1048576 := by have := HSZ.out.2; have := sz_mem (List.getElem_mem hlk); omega
        have HFJ := hid (show ∀ x ∈ g1, x < B from fun x hx => HS3.out x (hf x hx))
        have HL2 := hid hl2
        clear hat hf hl2
        go_wp2_with fail
        refine (HIH.out _ (List.getElem_mem hlk) B _ _ _ _ g1 _ HG4.out hat' HFJ.out hBr hszj HL2.out).mono ?_
        rintro e w4 ⟨v5, g5, rfl, hG5, hgr5⟩
        have HG5 := hid hG5
        have HGR5 := hid (HGR4.out.trans hgr5)
        clear hG5 hgr5 e0 e1 e2 e3 e4 e5 e6 e7 e8 z0 z1 z2 z3 z4 z5 z6 z7 z8 hat'
        go_wp2_with fail
        go_roundw
        case rel => exact ⟨j + 1, _, g5, by omega, by go_num, rfl, by rw [HTK.out]; exact HG5.out, HGR5.out⟩
        case measure => simp [intOf]; omega
      · have hz : ts.take j = ts := List.take_of_length_le (by omega)
        have HZ := hid hz
        clear hz
        go_wp2_with fail
        go_ret
        refine ⟨_, g', rfl, ?_, (Gr.of_below (hb0 k) _).trans HGR4.out⟩
        have := HG4.out
        rw [HZ.out] at this
        rw [HEC.out]
        exact this

theorem l4CastTypes_any (lab : Int) : ∀ t : Tm, CtsC lab t := Tm.ind (l4CastTypes_of lab)

theorem news_b {w w1 w2 : World} {o o' : Obj} (hb : Below ((w.alloc o).drew.alloc o').heap.size ((w.alloc o).drew.alloc o') w1) (hb2 : Below w1.heap.size w1 w2) : w2.heap[w.heap.size + 1]? = some o' := blk (news_in hb) hb2

theorem news_c {w1 w2 : World} {o : Obj} (hb : Below (w1.alloc o).heap.size (w1.alloc o) w2) : w2.heap[w1.heap.size]? = some o := blk (alloc_new w1 o) hb

theorem callOk_ct : CallOkT 67 := fun _ _ => by kernel_rfl

/-- The label's variable and the list's. -/
def CtSt (lab : Int) (L M B : Nat) (ds : List Ty) (v : Value) (w : World) : Prop := ListAt M B ds v w ∧ w.cell? ⟨L, 0, none⟩ = some (.int .i64 lab) ∧ L < M

set_option maxRecDepth 100000 in
set_option maxHeartbeats 16000000 in
theorem visitCt (lab : Int) (L M B : Nat) : VisC 67 #[.pointer (some ⟨L, 0, none⟩), .pointer (some ⟨M, 0, none⟩)] M B (CtSt lab L M B) List.length (ctStep lab) := by
  intro ds v nm num ty fr lb ts k1 n1 a1 c1 k2 n2 a2 c2 a3 c3 fp w hS hat hown4 hfp hBw hlen
  obtain ⟨⟨g, hO, hG, hMB⟩, hLc, hLM⟩ := hS
  obtain ⟨k1', n1', a1', c1', k2', n2', a2', c2', a3', c3', f1, f2, f3, hv, hnm, ht1, ht2, -, -⟩ := hat.parts
  simp only [Value.agg.injEq, Array.mk.injEq, List.cons.injEq, and_true, Value.int.injEq, Value.slice.injEq, true_and] at hv
  obtain ⟨rfl, ⟨rfl, rfl, rfl⟩, rfl, ⟨rfl, rfl, rfl⟩, rfl, rfl⟩ := hv
  obtain ⟨av, capv, rfl⟩ := hG.shape
  obtain ⟨i0, hi0, hz0, hz1, hz2⟩ := info_parts (P := Tryd.prog) (e := 31) Tryd.infoElem
  have hb0 : Below w.heap.size w (w.alloc (Obj.cells #[.int .i64 14, .string nm, .int .i64 num, .int .i64 k1, .slice a1 n1 c1, .int .i64 k2, .slice a2 n2 c2, .int .i64 lb, .slice a3 ts.length c3] 34)) := (Below.refl _ _).alloc (Nat.le_refl _) _
  have HWF := hid (show wf ty ∧ wf fr by
    simp only [own4, Bool.and_eq_true] at hown4
    exact ⟨wf_of_vld hown4.1.1.2, wf_of_vld hown4.1.2⟩)
  have HFR := hid (ht2.below hb0)
  have HTY := hid (ht1.below hb0)
  have HGW := hid (hG.below hb0)
  have HO1 := hid (blk hO hb0)
  have hOWN := HGW.out.own_ge
  have HOWN := hid hOWN
  have HBW := hid (Nat.le_trans hBw hb0.size)
  have h63 : ds.length + 2 ≤ maxLen := by unfold maxLen; omega
  have hby : (ds.length + 2) * 32 ≤ 140737488355328 := by omega
  have hMlt : M < w.heap.size := by omega
  have hLlt : L < w.heap.size := by omega
  obtain ⟨x0, x1, x2, x3, x4, x5, x6, x7, x8⟩ := box9 (Below.refl ((w.alloc (Obj.cells #[.int .i64 14, .string nm, .int .i64 num, .int .i64 k1, .slice a1 n1 c1, .int .i64 k2, .slice a2 n2 c2, .int .i64 lb, .slice a3 ts.length c3] 34))).heap.size (w.alloc (Obj.cells #[.int .i64 14, .string nm, .int .i64 num, .int .i64 k1, .slice a1 n1 c1, .int .i64 k2, .slice a2 n2 c2, .int .i64 lb, .slice a3 ts.length c3] 34)))
  have y0 : ((w.alloc (Obj.cells #[.int .i64 14, .string nm, .int .i64 num, .int .i64 k1, .slice a1 n1 c1, .int .i64 k2, .slice a2 n2 c2, .int .i64 lb, .slice a3 ts.length c3] 34))).cell? ⟨M, 0, none⟩ = some (.slice av ds.length capv) := by rw [cell_of_block HO1.out]; rfl
  have yL := cell_keep hLc hb0
  have hnn : (ds.length : Int) < (ds.length : Int) + 2 := by omega
  have hnn1 : (ds.length : Int) + 1 < (ds.length : Int) + 2 := by omega
  have hwr : IntKind.i64.wrap ((ds.length : Int) + 1) = (ds.length : Int) + 1 := (by rw [IntKind.wrap_i64]; omega)
  have hto : ((ds.length : Int) + 1).toNat = ds.length + 1 := by omega
  have hz0' : (0 : Int) ≤ (ds.length : Int) + 1 := by omega
  have HLC := hid hLc
  clear hat hG hO hOWN ht1 ht2 hown4
  have HS0 := hid (show ∀ w', Below ((w.alloc (Obj.cells #[.int .i64 14, .string nm, .int .i64 num, .int .i64 k1, .slice a1 n1 c1, .int .i64 k2, .slice a2 n2 c2, .int .i64 lb, .slice a3 ts.length c3] 34))).heap.size (w.alloc (Obj.cells #[.int .i64 14, .string nm, .int .i64 num, .int .i64 k1, .slice a1 n1 c1, .int .i64 k2, .slice a2 n2 c2, .int .i64 lb, .slice a3 ts.length c3] 34)) w' → (fun w' => w'.cell? ⟨M, 0, none⟩ = some (.slice av ds.length capv) ∧ w'.cell? ⟨w.heap.size, 3, none⟩ = some (.int .i64 k1) ∧ w'.cell? ⟨w.heap.size, 4, none⟩ = some (.slice a1 n1 c1) ∧ w'.cell? ⟨w.heap.size, 5, none⟩ = some (.int .i64 k2) ∧ w'.cell? ⟨w.heap.size, 6, none⟩ = some (.slice a2 n2 c2)) w' from fun w' h => ⟨cell_keep y0 h, cell_keep x3 h, cell_keep x4 h, cell_keep x5 h, cell_keep x6 h⟩)
  by_cases hl : lb = lab
  · subst hl
    have HST := hid (show ctStep lb ds (.mk 14 nm num ty fr lb ts) = ds ++ [fr, ty] by simp [ctStep])
    go_enter Tryd.func67, Tryd.ntmps67
    go_wp2_with fail
    refine regionL (s := 9) (S0 := (fun w' => w'.cell? ⟨M, 0, none⟩ = some (.slice av ds.length capv) ∧ w'.cell? ⟨w.heap.size, 3, none⟩ = some (.int .i64 k1) ∧ w'.cell? ⟨w.heap.size, 4, none⟩ = some (.slice a1 n1 c1) ∧ w'.cell? ⟨w.heap.size, 5, none⟩ = some (.int .i64 k2) ∧ w'.cell? ⟨w.heap.size, 6, none⟩ = some (.slice a2 n2 c2))) (S1 := (fun _ => True)) (by kernel_rfl) (HS0.out _ (below_drew _)) (trivial) (fun hS0 => ?_)
    refine takeL0 (i := 0) (v := ?vc1) rfl rfl (by kernel_rfl) (by kernel_rfl) (by kernel_rfl) (by decide) (by kernel_rfl) (by kernel_rfl) (fun _ _ _ h => h) (Or.inl ⟨by rfl, ?hyc1⟩) (by assumption) ?_
    case hyc1 => (intro w hSw; (try dsimp only at hSw); go_simp; (try with_reducible rfl))
    try simp only [Act.put, List.setIfInBounds_toArray, List.set_cons_zero, List.set_cons_succ]
    refine takeL0 (i := 1) (v := ?vc2) rfl rfl (by kernel_rfl) (by kernel_rfl) (by kernel_rfl) (by decide) (by kernel_rfl) (by kernel_rfl) (fun _ _ _ h => h) (Or.inl ⟨by rfl, ?hyc2⟩) (by assumption) ?_
    case hyc2 => (intro w hSw; (try dsimp only at hSw); go_simp; (try with_reducible rfl))
    try simp only [Act.put, List.setIfInBounds_toArray, List.set_cons_zero, List.set_cons_succ]
    refine takeL0 (i := 2) (v := ?vc3) rfl rfl (by kernel_rfl) (by kernel_rfl) (by kernel_rfl) (by decide) (by kernel_rfl) (by kernel_rfl) (fun _ _ _ h => h) (Or.inl ⟨by rfl, ?hyc3⟩) (by assumption) ?_
    case hyc3 => (intro w hSw; (try dsimp only at hSw); go_simp; (try with_reducible rfl))
    try simp only [Act.put, List.setIfInBounds_toArray, List.set_cons_zero, List.set_cons_succ]
    refine takeL0 (i := 4) (v := ?vc4) rfl rfl (by kernel_rfl) (by kernel_rfl) (by kernel_rfl) (by decide) (by kernel_rfl) (by kernel_rfl) (fun _ _ _ h => h) (Or.inl ⟨by rfl, ?hyc4⟩) (by assumption) ?_
    case hyc4 => (intro w hSw; (try dsimp only at hSw); go_simp; (try with_reducible rfl))
    try simp only [Act.put, List.setIfInBounds_toArray, List.set_cons_zero, List.set_cons_succ]
    refine takeL0 (i := 5) (v := ?vc5) rfl rfl (by kernel_rfl) (by kernel_rfl) (by kernel_rfl) (by decide) (by kernel_rfl) (by kernel_rfl) (fun _ _ _ h => h) (Or.inl ⟨by rfl, ?hyc5⟩) (by assumption) ?_
    case hyc5 => (intro w hSw; (try dsimp only at hSw); go_simp; (try with_reducible rfl))
    try simp only [Act.put, List.setIfInBounds_toArray, List.set_cons_zero, List.set_cons_succ]
    refine takeL0 (i := 7) (v := ?vc6) rfl rfl (by kernel_rfl) (by kernel_rfl) (by kernel_rfl) (by decide) (by kernel_rfl) (by kernel_rfl) (fun _ _ _ h => h) (Or.inl ⟨by rfl, ?hyc6⟩) (by assumption) ?_
    case hyc6 => (intro w hSw; (try dsimp only at hSw); go_simp; (try with_reducible rfl))
    try simp only [Act.put, List.setIfInBounds_toArray, List.set_cons_zero, List.set_cons_succ]
    refine takeL (i := 12) (v := ?vc7) rfl (by kernel_rfl) (by kernel_rfl) (by kernel_rfl) (by decide) (fun _ _ _ h => h) (Or.inl ⟨by rfl, ?hyc7⟩) (by assumption) ?_
    case hyc7 => (intro w hSw; (try dsimp only at hSw); go_simp; (try with_reducible rfl))
    try simp only [Act.put, List.setIfInBounds_toArray, List.set_cons_zero, List.set_cons_succ]
    refine readyL (rs := [3, 8]) (by kernel_rfl) (by simp) ?_
    refine AllReadyL.cons rfl (fun K hK => ?_) ?_
    · go_simp
      refine (copyType_from (W0 := (w.alloc (Obj.cells #[.int .i64 14, .string nm, .int .i64 num, .int .i64 k1, .slice a1 n1 c1, .int .i64 k2, .slice a2 n2 c2, .int .i64 lb, .slice a3 ts.length c3] 34))) (below_drew _) HFR.out HWF.out.2).mono ?_
      rintro e w1 ⟨⟨v1, g1, rfl, hat1', hf1', hb1⟩, hU1⟩
      obtain ⟨kk1, nn1, aa1, cc1, rfl⟩ := hat1'.agg
      have hB1 := below_trans hU1 hb1
      have hf1n := hf1'.mono hU1.size
      have hA1 := (Below.refl w1.heap.size w1).alloc (Nat.le_refl _) (Obj.cells #[.int .i64 0, .slice none 0 0, .int .i64 0, .slice none 0 0] 31)
      try go_simp
      refine hK.out _ _ ?_ (fun hS1 => ?_)
      · exact ⟨trivial, fun _ => HS0.out _ hB1⟩
      clear hK K hS0
      try simp only [Act.put, List.setIfInBounds_toArray, List.set_cons_zero, List.set_cons_succ]
      refine readyL (rs := [6, 8]) (by kernel_rfl) (by simp) ?_
      refine AllReadyL.cons rfl (fun K hK => ?_) ?_
      · go_simp
        refine (copyType_from (W0 := (w.alloc (Obj.cells #[.int .i64 14, .string nm, .int .i64 num, .int .i64 k1, .slice a1 n1 c1, .int .i64 k2, .slice a2 n2 c2, .int .i64 lb, .slice a3 ts.length c3] 34))) hB1 HTY.out HWF.out.1).mono ?_
        rintro e w2 ⟨⟨v2, g2, rfl, hat2', hf2', hb2⟩, hU2⟩
        obtain ⟨kk2, nn2, aa2, cc2, rfl⟩ := hat2'.agg
        have hB2 := below_trans hU2 hb2
        have hb2n : Below w1.heap.size w1 w2 := hb2
        have hf2n : Fresh w1.heap.size w2 g2 := hf2'.mono (Nat.le_refl _)
        have hA2 := (Below.refl w2.heap.size w2).alloc (Nat.le_refl _) (Obj.cells #[.int .i64 0, .slice none 0 0, .int .i64 0, .slice none 0 0] 31)
        have yM2 := (HS0.out _ hB2).1
        have zM2 := cell_keep yM2 hA2
        obtain ⟨xs, ho1, ha1, hfx1, hn1⟩ := HGW.out.below hB2
        have hM1 : B ≤ w2.heap.size := Nat.le_trans HBW.out hB2.size
        try go_simp
        refine hK.out _ _ ?_ (fun hS2 => ?_)
        · exact ⟨trivial, fun _ => HS0.out _ hB2⟩
        clear hK K hS1
        try simp only [Act.put, List.setIfInBounds_toArray, List.set_cons_zero, List.set_cons_succ]
        refine readyL (rs := [8]) (by kernel_rfl) (by simp) ?_
        refine AllReadyL.cons rfl (fun K hK => ?_) AllReadyL.nil
        go_simp
        refine hK.out _ _ ?_ (fun hS3 => ?_)
        · exact ⟨trivial, fun _ => HS0.out _ (below_trans hB2 hA2)⟩
        clear hK K hS2
        try simp only [Act.put, List.setIfInBounds_toArray, List.set_cons_zero, List.set_cons_succ]
        refine readyL (rs := [9]) (by kernel_rfl) (by simp) ?_
        refine AllReadyL.cons rfl (fun K hK => ?_) AllReadyL.nil
        (refine step_append_lies _ (by rfl) _ _ _ (by rfl) B 31 i0 _ 2 32 Tryd.underElems hi0 hz0 hz1 hz2 rfl (by omega) (.slice av ds.length capv) ds.length xs (by rfl) (ho1.alloc _) ⟨w2.heap.size, 0, none⟩ 2 2 [.int .i64 0, .slice none 0 0, .int .i64 0, .slice none 0 0] (by rfl) (by rfl) (World.news_of_block (cs := #[.int .i64 0, .slice none 0 0, .int .i64 0, .slice none 0 0]) (t := 31) (fr := (0, 0)) (heap_alloc_new w2 _)) (by simp [Value.oneCell']) (by omega) h63 hby (by simp; omega) (w2.heap.size + 1) (by simp) ?_; intro g3 cp w3 hown3 hgrow hat3 hlt3; have hw2 : Below w2.heap.size w2 (w2.alloc (Obj.cells #[.int .i64 0, .slice none 0 0, .int .i64 0, .slice none 0 0] 31)) := (Below.refl _ _).alloc (Nat.le_refl _) _; have hat4 : (Value.slice av ds.length capv).ownBlock = some g3 ∨ g3 = (w2.alloc (Obj.cells #[.int .i64 0, .slice none 0 0, .int .i64 0, .slice none 0 0] 31)).heap.size := (by simpa using hat3); obtain ⟨⟨u0, u1, u2, u3, d0, d1, d2, d3⟩, kz⟩ := own_last4 hown3; have m0 := m_cell hgrow HOWN.out hMB zM2; have mF := m_frozen hgrow HOWN.out hMB (blk (blk HO1.out hB2) hw2); have hMg : M ≠ g3 := mne HOWN.out hMB hat4 (Nat.lt_of_lt_of_le hMlt (Nat.le_trans hb0.size (Nat.le_trans hB2.size hw2.size))); have fz := fun (W : World) (a : Addr) (u : Value) (b o : Nat) => frozen_setCell W a u b o; have rM := fun (W : World) (o : Nat) (u : Value) => cell_setCell_ne W ⟨g3, o, none⟩ u M 0 hMg; have rG := fun (W : World) (o : Nat) (u : Value) => cell_setCell_ne W ⟨M, 0, none⟩ u g3 o hMg.symm; have r01 := fun (W : World) (u : Value) => cell_setCell_off W g3 (ds.length * 2) (ds.length * 2 + 1) u (by omega); have r02 := fun (W : World) (u : Value) => cell_setCell_off W g3 (ds.length * 2) ((ds.length + 1) * 2) u (by omega); have r03 := fun (W : World) (u : Value) => cell_setCell_off W g3 (ds.length * 2) ((ds.length + 1) * 2 + 1) u (by omega); have r10 := fun (W : World) (u : Value) => cell_setCell_off W g3 (ds.length * 2 + 1) (ds.length * 2) u (by omega); have r12 := fun (W : World) (u : Value) => cell_setCell_off W g3 (ds.length * 2 + 1) ((ds.length + 1) * 2) u (by omega); have r13 := fun (W : World) (u : Value) => cell_setCell_off W g3 (ds.length * 2 + 1) ((ds.length + 1) * 2 + 1) u (by omega); have r20 := fun (W : World) (u : Value) => cell_setCell_off W g3 ((ds.length + 1) * 2) (ds.length * 2) u (by omega); have r21 := fun (W : World) (u : Value) => cell_setCell_off W g3 ((ds.length + 1) * 2) (ds.length * 2 + 1) u (by omega); have r23 := fun (W : World) (u : Value) => cell_setCell_off W g3 ((ds.length + 1) * 2) ((ds.length + 1) * 2 + 1) u (by omega); have r30 := fun (W : World) (u : Value) => cell_setCell_off W g3 ((ds.length + 1) * 2 + 1) (ds.length * 2) u (by omega); have r31 := fun (W : World) (u : Value) => cell_setCell_off W g3 ((ds.length + 1) * 2 + 1) (ds.length * 2 + 1) u (by omega); have r32 := fun (W : World) (u : Value) => cell_setCell_off W g3 ((ds.length + 1) * 2 + 1) ((ds.length + 1) * 2) u (by omega); have HSW := hid (And.intro hMg True.intro))
        refine hK.out _ _ ?_ (fun hS4 => ?_)
        · exact ⟨trivial, fun h => absurd (h.symm.trans (show _ = true by kernel_rfl)) (by decide)⟩
        clear hK K hS3
        try simp only [Act.put, List.setIfInBounds_toArray, List.set_cons_zero, List.set_cons_succ]
        refine takeL (i := 10) (v := ?vc8) rfl (by kernel_rfl) (by kernel_rfl) (by kernel_rfl) (by decide) (fun _ _ _ h => h) (Or.inl ⟨by rfl, ?hyc8⟩) (by assumption) ?_
        case hyc8 => (intro w hSw; (try dsimp only at hSw); go_simp; (try with_reducible rfl))
        try simp only [Act.put, List.setIfInBounds_toArray, List.set_cons_zero, List.set_cons_succ]
        refine readyL (rs := [11, 15]) (by kernel_rfl) (by simp) ?_
        refine AllReadyL.cons rfl (fun K hK => ?_) ?_
        · go_simp
          refine hK.out _ _ ?_ (fun hS5 => ?_)
          · exact ⟨trivial, fun h => absurd (h.symm.trans (show _ = true by kernel_rfl)) (by decide)⟩
          clear hK K hS4
          try simp only [Act.put, List.setIfInBounds_toArray, List.set_cons_zero, List.set_cons_succ]
          refine takeL (i := 13) (v := ?vc9) rfl (by kernel_rfl) (by kernel_rfl) (by kernel_rfl) (by decide) (fun _ _ _ h => h) (Or.inl ⟨by rfl, ?hyc9⟩) (by assumption) ?_
          case hyc9 => (intro w hSw; (try dsimp only at hSw); go_simp; (try with_reducible rfl))
          try simp only [Act.put, List.setIfInBounds_toArray, List.set_cons_zero, List.set_cons_succ]
          refine readyL (rs := [14, 15]) (by kernel_rfl) (by simp) ?_
          refine AllReadyL.cons rfl (fun K hK => ?_) ?_
          · go_simp
            refine hK.out _ _ ?_ (fun hS6 => ?_)
            · exact ⟨trivial, fun h => absurd (h.symm.trans (show _ = true by kernel_rfl)) (by decide)⟩
            clear hK K hS5
            try simp only [Act.put, List.setIfInBounds_toArray, List.set_cons_zero, List.set_cons_succ]
            refine readyL (rs := [15]) (by kernel_rfl) (by simp) ?_
            refine AllReadyL.cons rfl (fun K hK => ?_) AllReadyL.nil
            go_simp
            refine hK.out _ _ ?_ (fun hS7 => ?_)
            · exact ⟨trivial, fun h => absurd (h.symm.trans (show _ = true by kernel_rfl)) (by decide)⟩
            clear hK K hS6
            try simp only [Act.put, List.setIfInBounds_toArray, List.set_cons_zero, List.set_cons_succ]
            refine doneL (by kernel_rfl) ?_ _
            have HF := hid (visit_close4 HO1.out HGW.out hB1 hb2n ha1 hfx1 hn1 hat1' hf1n hat2' hf2n hw2 hgrow hown3 hat4 hMB HBW.out hb0)
            generalize ((((w3.setCell ⟨g3, ds.length * 2, none⟩ (.int .i64 kk1)).setCell ⟨g3, ds.length * 2 + 1, none⟩ (.slice aa1 nn1 cc1)).setCell ⟨g3, (ds.length + 1) * 2, none⟩ (.int .i64 kk2)).setCell ⟨g3, (ds.length + 1) * 2 + 1, none⟩ (.slice aa2 nn2 cc2)).setCell ⟨M, 0, none⟩ (.slice (some ⟨g3, 0, none⟩) (ds.length + 2) cp) = WF at HF ⊢
            clear HS0
            go_wp2_with fail
            first | go_ret | go_end0
            obtain ⟨q1, q2⟩ := HF.out
            rw [HST.out]
            exact ⟨⟨_, rfl⟩, _, ⟨q1, ((q2.below hMB hBw (fun b hb => (HOWN.out b hb).1)).cell (p := ⟨L, 0, none⟩) hLM).trans HLC.out, hLM⟩, q2⟩
          refine AllReadyL.cons rfl (fun K hK => ?_) AllReadyL.nil
          go_simp
          refine hK.out _ _ ?_ (fun hS6 => ?_)
          · exact ⟨trivial, fun h => absurd (h.symm.trans (show _ = true by kernel_rfl)) (by decide)⟩
          clear hK K hS5
          try simp only [Act.put, List.setIfInBounds_toArray, List.set_cons_zero, List.set_cons_succ]
          refine readyL (rs := [14]) (by kernel_rfl) (by simp) ?_
          refine AllReadyL.cons rfl (fun K hK => ?_) AllReadyL.nil
          go_simp
          refine hK.out _ _ ?_ (fun hS7 => ?_)
          · exact ⟨trivial, fun h => absurd (h.symm.trans (show _ = true by kernel_rfl)) (by decide)⟩
          clear hK K hS6
          try simp only [Act.put, List.setIfInBounds_toArray, List.set_cons_zero, List.set_cons_succ]
          refine doneL (by kernel_rfl) ?_ _
          have HF := hid (visit_close4 HO1.out HGW.out hB1 hb2n ha1 hfx1 hn1 hat1' hf1n hat2' hf2n hw2 hgrow hown3 hat4 hMB HBW.out hb0)
          have cM : ∀ (W : World) (o : Nat) (x y : Value), (W.setCell ⟨M, 0, none⟩ x).setCell ⟨g3, o, none⟩ y = (W.setCell ⟨g3, o, none⟩ y).setCell ⟨M, 0, none⟩ x := fun W o x y => setCell_comm W ⟨M, 0, none⟩ ⟨g3, o, none⟩ x y hMg
          simp only [cM]
          generalize ((((w3.setCell ⟨g3, ds.length * 2, none⟩ (.int .i64 kk1)).setCell ⟨g3, ds.length * 2 + 1, none⟩ (.slice aa1 nn1 cc1)).setCell ⟨g3, (ds.length + 1) * 2, none⟩ (.int .i64 kk2)).setCell ⟨g3, (ds.length + 1) * 2 + 1, none⟩ (.slice aa2 nn2 cc2)).setCell ⟨M, 0, none⟩ (.slice (some ⟨g3, 0, none⟩) (ds.length + 2) cp) = WF at HF ⊢
          clear HS0
          go_wp2_with fail
          first | go_ret | go_end0
          obtain ⟨q1, q2⟩ := HF.out
          rw [HST.out]
          exact ⟨⟨_, rfl⟩, _, ⟨q1, ((q2.below hMB hBw (fun b hb => (HOWN.out b hb).1)).cell (p := ⟨L, 0, none⟩) hLM).trans HLC.out, hLM⟩, q2⟩
        refine AllReadyL.cons rfl (fun K hK => ?_) AllReadyL.nil
        go_simp
        refine hK.out _ _ ?_ (fun hS5 => ?_)
        · exact ⟨trivial, fun h => absurd (h.symm.trans (show _ = true by kernel_rfl)) (by decide)⟩
        clear hK K hS4
        try simp only [Act.put, List.setIfInBounds_toArray, List.set_cons_zero, List.set_cons_succ]
        refine readyL (rs := [11]) (by kernel_rfl) (by simp) ?_
        refine AllReadyL.cons rfl (fun K hK => ?_) AllReadyL.nil
        go_simp
        refine hK.out _ _ ?_ (fun hS6 => ?_)
        · exact ⟨trivial, fun h => absurd (h.symm.trans (show _ = true by kernel_rfl)) (by decide)⟩
        clear hK K hS5
        try simp only [Act.put, List.setIfInBounds_toArray, List.set_cons_zero, List.set_cons_succ]
        refine takeL (i := 13) (v := ?vc10) rfl (by kernel_rfl) (by kernel_rfl) (by kernel_rfl) (by decide) (fun _ _ _ h => h) (Or.inl ⟨by rfl, ?hyc10⟩) (by assumption) ?_
        case hyc10 => (intro w hSw; (try dsimp only at hSw); go_simp; (try with_reducible rfl))
        try simp only [Act.put, List.setIfInBounds_toArray, List.set_cons_zero, List.set_cons_succ]
        refine readyL (rs := [14]) (by kernel_rfl) (by simp) ?_
        refine AllReadyL.cons rfl (fun K hK => ?_) AllReadyL.nil
        go_simp
        refine hK.out _ _ ?_ (fun hS7 => ?_)
        · exact ⟨trivial, fun h => absurd (h.symm.trans (show _ = true by kernel_rfl)) (by decide)⟩
        clear hK K hS6
        try simp only [Act.put, List.setIfInBounds_toArray, List.set_cons_zero, List.set_cons_succ]
        refine doneL (by kernel_rfl) ?_ _
        have HF := hid (visit_close4 HO1.out HGW.out hB1 hb2n ha1 hfx1 hn1 hat1' hf1n hat2' hf2n hw2 hgrow hown3 hat4 hMB HBW.out hb0)
        have cM : ∀ (W : World) (o : Nat) (x y : Value), (W.setCell ⟨M, 0, none⟩ x).setCell ⟨g3, o, none⟩ y = (W.setCell ⟨g3, o, none⟩ y).setCell ⟨M, 0, none⟩ x := fun W o x y => setCell_comm W ⟨M, 0, none⟩ ⟨g3, o, none⟩ x y hMg
        simp only [cM]
        generalize ((((w3.setCell ⟨g3, ds.length * 2, none⟩ (.int .i64 kk1)).setCell ⟨g3, ds.length * 2 + 1, none⟩ (.slice aa1 nn1 cc1)).setCell ⟨g3, (ds.length + 1) * 2, none⟩ (.int .i64 kk2)).setCell ⟨g3, (ds.length + 1) * 2 + 1, none⟩ (.slice aa2 nn2 cc2)).setCell ⟨M, 0, none⟩ (.slice (some ⟨g3, 0, none⟩) (ds.length + 2) cp) = WF at HF ⊢
        clear HS0
        go_wp2_with fail
        first | go_ret | go_end0
        obtain ⟨q1, q2⟩ := HF.out
        rw [HST.out]
        exact ⟨⟨_, rfl⟩, _, ⟨q1, ((q2.below hMB hBw (fun b hb => (HOWN.out b hb).1)).cell (p := ⟨L, 0, none⟩) hLM).trans HLC.out, hLM⟩, q2⟩
      refine AllReadyL.cons rfl (fun K hK => ?_) AllReadyL.nil
      go_simp
      refine hK.out _ _ ?_ (fun hS2 => ?_)
      · exact ⟨trivial, fun _ => HS0.out _ (below_trans hB1 hA1)⟩
      clear hK K hS1
      try simp only [Act.put, List.setIfInBounds_toArray, List.set_cons_zero, List.set_cons_succ]
      refine readyL (rs := [6]) (by kernel_rfl) (by simp) ?_
      refine AllReadyL.cons rfl (fun K hK => ?_) AllReadyL.nil
      go_simp
      refine (copyType_from (W0 := (w.alloc (Obj.cells #[.int .i64 14, .string nm, .int .i64 num, .int .i64 k1, .slice a1 n1 c1, .int .i64 k2, .slice a2 n2 c2, .int .i64 lb, .slice a3 ts.length c3] 34))) (below_trans hB1 hA1) HTY.out HWF.out.1).mono ?_
      rintro e w2 ⟨⟨v2, g2, rfl, hat2', hf2', hb2⟩, hU2⟩
      obtain ⟨kk2, nn2, aa2, cc2, rfl⟩ := hat2'.agg
      have hB2 := below_trans hU2 hb2
      have hb2n : Below w1.heap.size w1 w2 := (below_trans hA1 hb2)
      have hf2n : Fresh w1.heap.size w2 g2 := hf2'.mono hA1.size
      have hA2 := (Below.refl w2.heap.size w2).alloc (Nat.le_refl _) (Obj.cells #[.int .i64 0, .slice none 0 0, .int .i64 0, .slice none 0 0] 31)
      have yM2 := (HS0.out _ hB2).1
      have zM2 := cell_keep yM2 hA2
      obtain ⟨xs, ho1, ha1, hfx1, hn1⟩ := HGW.out.below hB2
      have hM1 : B ≤ w2.heap.size := Nat.le_trans HBW.out hB2.size
      try go_simp
      refine hK.out _ _ ?_ (fun hS3 => ?_)
      · exact ⟨trivial, fun _ => HS0.out _ hB2⟩
      clear hK K hS2
      try simp only [Act.put, List.setIfInBounds_toArray, List.set_cons_zero, List.set_cons_succ]
      refine readyL (rs := [9]) (by kernel_rfl) (by simp) ?_
      refine AllReadyL.cons rfl (fun K hK => ?_) AllReadyL.nil
      (refine step_append_lies _ (by rfl) _ _ _ (by rfl) B 31 i0 _ 2 32 Tryd.underElems hi0 hz0 hz1 hz2 rfl (by omega) (.slice av ds.length capv) ds.length xs (by rfl) ho1 ⟨w1.heap.size, 0, none⟩ 2 2 [.int .i64 0, .slice none 0 0, .int .i64 0, .slice none 0 0] (by rfl) (by rfl) (World.news_of_block (cs := #[.int .i64 0, .slice none 0 0, .int .i64 0, .slice none 0 0]) (t := 31) (fr := (0, 0)) (news_c hb2)) (by simp [Value.oneCell']) (by omega) h63 hby (by omega) w2.heap.size (by rfl) ?_; intro g3 cp w3 hown3 hgrow hat3 hlt3; have hw2 : Below w2.heap.size w2 w2 := Below.refl _ _; have hat4 := hat3; obtain ⟨⟨u0, u1, u2, u3, d0, d1, d2, d3⟩, kz⟩ := own_last4 hown3; have m0 := m_cell hgrow HOWN.out hMB yM2; have mF := m_frozen hgrow HOWN.out hMB (blk (blk HO1.out hB2) hw2); have hMg : M ≠ g3 := mne HOWN.out hMB hat4 (Nat.lt_of_lt_of_le hMlt (Nat.le_trans hb0.size (Nat.le_trans hB2.size hw2.size))); have fz := fun (W : World) (a : Addr) (u : Value) (b o : Nat) => frozen_setCell W a u b o; have rM := fun (W : World) (o : Nat) (u : Value) => cell_setCell_ne W ⟨g3, o, none⟩ u M 0 hMg; have rG := fun (W : World) (o : Nat) (u : Value) => cell_setCell_ne W ⟨M, 0, none⟩ u g3 o hMg.symm; have r01 := fun (W : World) (u : Value) => cell_setCell_off W g3 (ds.length * 2) (ds.length * 2 + 1) u (by omega); have r02 := fun (W : World) (u : Value) => cell_setCell_off W g3 (ds.length * 2) ((ds.length + 1) * 2) u (by omega); have r03 := fun (W : World) (u : Value) => cell_setCell_off W g3 (ds.length * 2) ((ds.length + 1) * 2 + 1) u (by omega); have r10 := fun (W : World) (u : Value) => cell_setCell_off W g3 (ds.length * 2 + 1) (ds.length * 2) u (by omega); have r12 := fun (W : World) (u : Value) => cell_setCell_off W g3 (ds.length * 2 + 1) ((ds.length + 1) * 2) u (by omega); have r13 := fun (W : World) (u : Value) => cell_setCell_off W g3 (ds.length * 2 + 1) ((ds.length + 1) * 2 + 1) u (by omega); have r20 := fun (W : World) (u : Value) => cell_setCell_off W g3 ((ds.length + 1) * 2) (ds.length * 2) u (by omega); have r21 := fun (W : World) (u : Value) => cell_setCell_off W g3 ((ds.length + 1) * 2) (ds.length * 2 + 1) u (by omega); have r23 := fun (W : World) (u : Value) => cell_setCell_off W g3 ((ds.length + 1) * 2) ((ds.length + 1) * 2 + 1) u (by omega); have r30 := fun (W : World) (u : Value) => cell_setCell_off W g3 ((ds.length + 1) * 2 + 1) (ds.length * 2) u (by omega); have r31 := fun (W : World) (u : Value) => cell_setCell_off W g3 ((ds.length + 1) * 2 + 1) (ds.length * 2 + 1) u (by omega); have r32 := fun (W : World) (u : Value) => cell_setCell_off W g3 ((ds.length + 1) * 2 + 1) ((ds.length + 1) * 2) u (by omega); have HSW := hid (And.intro hMg True.intro))
      refine hK.out _ _ ?_ (fun hS4 => ?_)
      · exact ⟨trivial, fun h => absurd (h.symm.trans (show _ = true by kernel_rfl)) (by decide)⟩
      clear hK K hS3
      try simp only [Act.put, List.setIfInBounds_toArray, List.set_cons_zero, List.set_cons_succ]
      refine takeL (i := 10) (v := ?vc11) rfl (by kernel_rfl) (by kernel_rfl) (by kernel_rfl) (by decide) (fun _ _ _ h => h) (Or.inl ⟨by rfl, ?hyc11⟩) (by assumption) ?_
      case hyc11 => (intro w hSw; (try dsimp only at hSw); go_simp; (try with_reducible rfl))
      try simp only [Act.put, List.setIfInBounds_toArray, List.set_cons_zero, List.set_cons_succ]
      refine readyL (rs := [11, 15]) (by kernel_rfl) (by simp) ?_
      refine AllReadyL.cons rfl (fun K hK => ?_) ?_
      · go_simp
        refine hK.out _ _ ?_ (fun hS5 => ?_)
        · exact ⟨trivial, fun h => absurd (h.symm.trans (show _ = true by kernel_rfl)) (by decide)⟩
        clear hK K hS4
        try simp only [Act.put, List.setIfInBounds_toArray, List.set_cons_zero, List.set_cons_succ]
        refine takeL (i := 13) (v := ?vc12) rfl (by kernel_rfl) (by kernel_rfl) (by kernel_rfl) (by decide) (fun _ _ _ h => h) (Or.inl ⟨by rfl, ?hyc12⟩) (by assumption) ?_
        case hyc12 => (intro w hSw; (try dsimp only at hSw); go_simp; (try with_reducible rfl))
        try simp only [Act.put, List.setIfInBounds_toArray, List.set_cons_zero, List.set_cons_succ]
        refine readyL (rs := [14, 15]) (by kernel_rfl) (by simp) ?_
        refine AllReadyL.cons rfl (fun K hK => ?_) ?_
        · go_simp
          refine hK.out _ _ ?_ (fun hS6 => ?_)
          · exact ⟨trivial, fun h => absurd (h.symm.trans (show _ = true by kernel_rfl)) (by decide)⟩
          clear hK K hS5
          try simp only [Act.put, List.setIfInBounds_toArray, List.set_cons_zero, List.set_cons_succ]
          refine readyL (rs := [15]) (by kernel_rfl) (by simp) ?_
          refine AllReadyL.cons rfl (fun K hK => ?_) AllReadyL.nil
          go_simp
          refine hK.out _ _ ?_ (fun hS7 => ?_)
          · exact ⟨trivial, fun h => absurd (h.symm.trans (show _ = true by kernel_rfl)) (by decide)⟩
          clear hK K hS6
          try simp only [Act.put, List.setIfInBounds_toArray, List.set_cons_zero, List.set_cons_succ]
          refine doneL (by kernel_rfl) ?_ _
          have HF := hid (visit_close4 HO1.out HGW.out hB1 hb2n ha1 hfx1 hn1 hat1' hf1n hat2' hf2n hw2 hgrow hown3 hat4 hMB HBW.out hb0)
          generalize ((((w3.setCell ⟨g3, ds.length * 2, none⟩ (.int .i64 kk1)).setCell ⟨g3, ds.length * 2 + 1, none⟩ (.slice aa1 nn1 cc1)).setCell ⟨g3, (ds.length + 1) * 2, none⟩ (.int .i64 kk2)).setCell ⟨g3, (ds.length + 1) * 2 + 1, none⟩ (.slice aa2 nn2 cc2)).setCell ⟨M, 0, none⟩ (.slice (some ⟨g3, 0, none⟩) (ds.length + 2) cp) = WF at HF ⊢
          clear HS0
          go_wp2_with fail
          first | go_ret | go_end0
          obtain ⟨q1, q2⟩ := HF.out
          rw [HST.out]
          exact ⟨⟨_, rfl⟩, _, ⟨q1, ((q2.below hMB hBw (fun b hb => (HOWN.out b hb).1)).cell (p := ⟨L, 0, none⟩) hLM).trans HLC.out, hLM⟩, q2⟩
        refine AllReadyL.cons rfl (fun K hK => ?_) AllReadyL.nil
        go_simp
        refine hK.out _ _ ?_ (fun hS6 => ?_)
        · exact ⟨trivial, fun h => absurd (h.symm.trans (show _ = true by kernel_rfl)) (by decide)⟩
        clear hK K hS5
        try simp only [Act.put, List.setIfInBounds_toArray, List.set_cons_zero, List.set_cons_succ]
        refine readyL (rs := [14]) (by kernel_rfl) (by simp) ?_
        refine AllReadyL.cons rfl (fun K hK => ?_) AllReadyL.nil
        go_simp
        refine hK.out _ _ ?_ (fun hS7 => ?_)
        · exact ⟨trivial, fun h => absurd (h.symm.trans (show _ = true by kernel_rfl)) (by decide)⟩
        clear hK K hS6
        try simp only [Act.put, List.setIfInBounds_toArray, List.set_cons_zero, List.set_cons_succ]
        refine doneL (by kernel_rfl) ?_ _
        have HF := hid (visit_close4 HO1.out HGW.out hB1 hb2n ha1 hfx1 hn1 hat1' hf1n hat2' hf2n hw2 hgrow hown3 hat4 hMB HBW.out hb0)
        have cM : ∀ (W : World) (o : Nat) (x y : Value), (W.setCell ⟨M, 0, none⟩ x).setCell ⟨g3, o, none⟩ y = (W.setCell ⟨g3, o, none⟩ y).setCell ⟨M, 0, none⟩ x := fun W o x y => setCell_comm W ⟨M, 0, none⟩ ⟨g3, o, none⟩ x y hMg
        simp only [cM]
        generalize ((((w3.setCell ⟨g3, ds.length * 2, none⟩ (.int .i64 kk1)).setCell ⟨g3, ds.length * 2 + 1, none⟩ (.slice aa1 nn1 cc1)).setCell ⟨g3, (ds.length + 1) * 2, none⟩ (.int .i64 kk2)).setCell ⟨g3, (ds.length + 1) * 2 + 1, none⟩ (.slice aa2 nn2 cc2)).setCell ⟨M, 0, none⟩ (.slice (some ⟨g3, 0, none⟩) (ds.length + 2) cp) = WF at HF ⊢
        clear HS0
        go_wp2_with fail
        first | go_ret | go_end0
        obtain ⟨q1, q2⟩ := HF.out
        rw [HST.out]
        exact ⟨⟨_, rfl⟩, _, ⟨q1, ((q2.below hMB hBw (fun b hb => (HOWN.out b hb).1)).cell (p := ⟨L, 0, none⟩) hLM).trans HLC.out, hLM⟩, q2⟩
      refine AllReadyL.cons rfl (fun K hK => ?_) AllReadyL.nil
      go_simp
      refine hK.out _ _ ?_ (fun hS5 => ?_)
      · exact ⟨trivial, fun h => absurd (h.symm.trans (show _ = true by kernel_rfl)) (by decide)⟩
      clear hK K hS4
      try simp only [Act.put, List.setIfInBounds_toArray, List.set_cons_zero, List.set_cons_succ]
      refine readyL (rs := [11]) (by kernel_rfl) (by simp) ?_
      refine AllReadyL.cons rfl (fun K hK => ?_) AllReadyL.nil
      go_simp
      refine hK.out _ _ ?_ (fun hS6 => ?_)
      · exact ⟨trivial, fun h => absurd (h.symm.trans (show _ = true by kernel_rfl)) (by decide)⟩
      clear hK K hS5
      try simp only [Act.put, List.setIfInBounds_toArray, List.set_cons_zero, List.set_cons_succ]
      refine takeL (i := 13) (v := ?vc13) rfl (by kernel_rfl) (by kernel_rfl) (by kernel_rfl) (by decide) (fun _ _ _ h => h) (Or.inl ⟨by rfl, ?hyc13⟩) (by assumption) ?_
      case hyc13 => (intro w hSw; (try dsimp only at hSw); go_simp; (try with_reducible rfl))
      try simp only [Act.put, List.setIfInBounds_toArray, List.set_cons_zero, List.set_cons_succ]
      refine readyL (rs := [14]) (by kernel_rfl) (by simp) ?_
      refine AllReadyL.cons rfl (fun K hK => ?_) AllReadyL.nil
      go_simp
      refine hK.out _ _ ?_ (fun hS7 => ?_)
      · exact ⟨trivial, fun h => absurd (h.symm.trans (show _ = true by kernel_rfl)) (by decide)⟩
      clear hK K hS6
      try simp only [Act.put, List.setIfInBounds_toArray, List.set_cons_zero, List.set_cons_succ]
      refine doneL (by kernel_rfl) ?_ _
      have HF := hid (visit_close4 HO1.out HGW.out hB1 hb2n ha1 hfx1 hn1 hat1' hf1n hat2' hf2n hw2 hgrow hown3 hat4 hMB HBW.out hb0)
      have cM : ∀ (W : World) (o : Nat) (x y : Value), (W.setCell ⟨M, 0, none⟩ x).setCell ⟨g3, o, none⟩ y = (W.setCell ⟨g3, o, none⟩ y).setCell ⟨M, 0, none⟩ x := fun W o x y => setCell_comm W ⟨M, 0, none⟩ ⟨g3, o, none⟩ x y hMg
      simp only [cM]
      generalize ((((w3.setCell ⟨g3, ds.length * 2, none⟩ (.int .i64 kk1)).setCell ⟨g3, ds.length * 2 + 1, none⟩ (.slice aa1 nn1 cc1)).setCell ⟨g3, (ds.length + 1) * 2, none⟩ (.int .i64 kk2)).setCell ⟨g3, (ds.length + 1) * 2 + 1, none⟩ (.slice aa2 nn2 cc2)).setCell ⟨M, 0, none⟩ (.slice (some ⟨g3, 0, none⟩) (ds.length + 2) cp) = WF at HF ⊢
      clear HS0
      go_wp2_with fail
      first | go_ret | go_end0
      obtain ⟨q1, q2⟩ := HF.out
      rw [HST.out]
      exact ⟨⟨_, rfl⟩, _, ⟨q1, ((q2.below hMB hBw (fun b hb => (HOWN.out b hb).1)).cell (p := ⟨L, 0, none⟩) hLM).trans HLC.out, hLM⟩, q2⟩
    refine AllReadyL.cons rfl (fun K hK => ?_) AllReadyL.nil
    go_simp
    refine hK.out _ _ ?_ (fun hS1 => ?_)
    · exact ⟨trivial, fun _ => HS0.out _ ((below_drew _).alloc (by simp) _)⟩
    clear hK K hS0
    try simp only [Act.put, List.setIfInBounds_toArray, List.set_cons_zero, List.set_cons_succ]
    refine readyL (rs := [3]) (by kernel_rfl) (by simp) ?_
    refine AllReadyL.cons rfl (fun K hK => ?_) AllReadyL.nil
    go_simp
    refine (copyType_from (W0 := (w.alloc (Obj.cells #[.int .i64 14, .string nm, .int .i64 num, .int .i64 k1, .slice a1 n1 c1, .int .i64 k2, .slice a2 n2 c2, .int .i64 lb, .slice a3 ts.length c3] 34))) ((below_drew _).alloc (by simp) _) HFR.out HWF.out.2).mono ?_
    rintro e w1 ⟨⟨v1, g1, rfl, hat1', hf1', hb1⟩, hU1⟩
    obtain ⟨kk1, nn1, aa1, cc1, rfl⟩ := hat1'.agg
    have hB1 := below_trans hU1 hb1
    have hf1n := hf1'.mono hU1.size
    have hA1 := (Below.refl w1.heap.size w1).alloc (Nat.le_refl _) (Obj.cells #[.int .i64 0, .slice none 0 0, .int .i64 0, .slice none 0 0] 31)
    try go_simp
    refine hK.out _ _ ?_ (fun hS2 => ?_)
    · exact ⟨trivial, fun _ => HS0.out _ hB1⟩
    clear hK K hS1
    try simp only [Act.put, List.setIfInBounds_toArray, List.set_cons_zero, List.set_cons_succ]
    refine readyL (rs := [6]) (by kernel_rfl) (by simp) ?_
    refine AllReadyL.cons rfl (fun K hK => ?_) AllReadyL.nil
    go_simp
    refine (copyType_from (W0 := (w.alloc (Obj.cells #[.int .i64 14, .string nm, .int .i64 num, .int .i64 k1, .slice a1 n1 c1, .int .i64 k2, .slice a2 n2 c2, .int .i64 lb, .slice a3 ts.length c3] 34))) hB1 HTY.out HWF.out.1).mono ?_
    rintro e w2 ⟨⟨v2, g2, rfl, hat2', hf2', hb2⟩, hU2⟩
    obtain ⟨kk2, nn2, aa2, cc2, rfl⟩ := hat2'.agg
    have hB2 := below_trans hU2 hb2
    have hb2n : Below w1.heap.size w1 w2 := hb2
    have hf2n : Fresh w1.heap.size w2 g2 := hf2'.mono (Nat.le_refl _)
    have hA2 := (Below.refl w2.heap.size w2).alloc (Nat.le_refl _) (Obj.cells #[.int .i64 0, .slice none 0 0, .int .i64 0, .slice none 0 0] 31)
    have yM2 := (HS0.out _ hB2).1
    have zM2 := cell_keep yM2 hA2
    obtain ⟨xs, ho1, ha1, hfx1, hn1⟩ := HGW.out.below hB2
    have hM1 : B ≤ w2.heap.size := Nat.le_trans HBW.out hB2.size
    try go_simp
    refine hK.out _ _ ?_ (fun hS3 => ?_)
    · exact ⟨trivial, fun _ => HS0.out _ hB2⟩
    clear hK K hS2
    try simp only [Act.put, List.setIfInBounds_toArray, List.set_cons_zero, List.set_cons_succ]
    refine readyL (rs := [9]) (by kernel_rfl) (by simp) ?_
    refine AllReadyL.cons rfl (fun K hK => ?_) AllReadyL.nil
    (refine step_append_lies _ (by rfl) _ _ _ (by rfl) B 31 i0 _ 2 32 Tryd.underElems hi0 hz0 hz1 hz2 rfl (by omega) (.slice av ds.length capv) ds.length xs (by rfl) ho1 ⟨w.heap.size + 1, 0, none⟩ 2 2 [.int .i64 0, .slice none 0 0, .int .i64 0, .slice none 0 0] (by rfl) (by rfl) (World.news_of_block (cs := #[.int .i64 0, .slice none 0 0, .int .i64 0, .slice none 0 0]) (t := 31) (fr := (0, 0)) (news_b hb1 hb2n)) (by simp [Value.oneCell']) (by omega) h63 hby (by omega) w2.heap.size (by rfl) ?_; intro g3 cp w3 hown3 hgrow hat3 hlt3; have hw2 : Below w2.heap.size w2 w2 := Below.refl _ _; have hat4 := hat3; obtain ⟨⟨u0, u1, u2, u3, d0, d1, d2, d3⟩, kz⟩ := own_last4 hown3; have m0 := m_cell hgrow HOWN.out hMB yM2; have mF := m_frozen hgrow HOWN.out hMB (blk (blk HO1.out hB2) hw2); have hMg : M ≠ g3 := mne HOWN.out hMB hat4 (Nat.lt_of_lt_of_le hMlt (Nat.le_trans hb0.size (Nat.le_trans hB2.size hw2.size))); have fz := fun (W : World) (a : Addr) (u : Value) (b o : Nat) => frozen_setCell W a u b o; have rM := fun (W : World) (o : Nat) (u : Value) => cell_setCell_ne W ⟨g3, o, none⟩ u M 0 hMg; have rG := fun (W : World) (o : Nat) (u : Value) => cell_setCell_ne W ⟨M, 0, none⟩ u g3 o hMg.symm; have r01 := fun (W : World) (u : Value) => cell_setCell_off W g3 (ds.length * 2) (ds.length * 2 + 1) u (by omega); have r02 := fun (W : World) (u : Value) => cell_setCell_off W g3 (ds.length * 2) ((ds.length + 1) * 2) u (by omega); have r03 := fun (W : World) (u : Value) => cell_setCell_off W g3 (ds.length * 2) ((ds.length + 1) * 2 + 1) u (by omega); have r10 := fun (W : World) (u : Value) => cell_setCell_off W g3 (ds.length * 2 + 1) (ds.length * 2) u (by omega); have r12 := fun (W : World) (u : Value) => cell_setCell_off W g3 (ds.length * 2 + 1) ((ds.length + 1) * 2) u (by omega); have r13 := fun (W : World) (u : Value) => cell_setCell_off W g3 (ds.length * 2 + 1) ((ds.length + 1) * 2 + 1) u (by omega); have r20 := fun (W : World) (u : Value) => cell_setCell_off W g3 ((ds.length + 1) * 2) (ds.length * 2) u (by omega); have r21 := fun (W : World) (u : Value) => cell_setCell_off W g3 ((ds.length + 1) * 2) (ds.length * 2 + 1) u (by omega); have r23 := fun (W : World) (u : Value) => cell_setCell_off W g3 ((ds.length + 1) * 2) ((ds.length + 1) * 2 + 1) u (by omega); have r30 := fun (W : World) (u : Value) => cell_setCell_off W g3 ((ds.length + 1) * 2 + 1) (ds.length * 2) u (by omega); have r31 := fun (W : World) (u : Value) => cell_setCell_off W g3 ((ds.length + 1) * 2 + 1) (ds.length * 2 + 1) u (by omega); have r32 := fun (W : World) (u : Value) => cell_setCell_off W g3 ((ds.length + 1) * 2 + 1) ((ds.length + 1) * 2) u (by omega); have HSW := hid (And.intro hMg True.intro))
    refine hK.out _ _ ?_ (fun hS4 => ?_)
    · exact ⟨trivial, fun h => absurd (h.symm.trans (show _ = true by kernel_rfl)) (by decide)⟩
    clear hK K hS3
    try simp only [Act.put, List.setIfInBounds_toArray, List.set_cons_zero, List.set_cons_succ]
    refine takeL (i := 10) (v := ?vc14) rfl (by kernel_rfl) (by kernel_rfl) (by kernel_rfl) (by decide) (fun _ _ _ h => h) (Or.inl ⟨by rfl, ?hyc14⟩) (by assumption) ?_
    case hyc14 => (intro w hSw; (try dsimp only at hSw); go_simp; (try with_reducible rfl))
    try simp only [Act.put, List.setIfInBounds_toArray, List.set_cons_zero, List.set_cons_succ]
    refine readyL (rs := [11, 15]) (by kernel_rfl) (by simp) ?_
    refine AllReadyL.cons rfl (fun K hK => ?_) ?_
    · go_simp
      refine hK.out _ _ ?_ (fun hS5 => ?_)
      · exact ⟨trivial, fun h => absurd (h.symm.trans (show _ = true by kernel_rfl)) (by decide)⟩
      clear hK K hS4
      try simp only [Act.put, List.setIfInBounds_toArray, List.set_cons_zero, List.set_cons_succ]
      refine takeL (i := 13) (v := ?vc15) rfl (by kernel_rfl) (by kernel_rfl) (by kernel_rfl) (by decide) (fun _ _ _ h => h) (Or.inl ⟨by rfl, ?hyc15⟩) (by assumption) ?_
      case hyc15 => (intro w hSw; (try dsimp only at hSw); go_simp; (try with_reducible rfl))
      try simp only [Act.put, List.setIfInBounds_toArray, List.set_cons_zero, List.set_cons_succ]
      refine readyL (rs := [14, 15]) (by kernel_rfl) (by simp) ?_
      refine AllReadyL.cons rfl (fun K hK => ?_) ?_
      · go_simp
        refine hK.out _ _ ?_ (fun hS6 => ?_)
        · exact ⟨trivial, fun h => absurd (h.symm.trans (show _ = true by kernel_rfl)) (by decide)⟩
        clear hK K hS5
        try simp only [Act.put, List.setIfInBounds_toArray, List.set_cons_zero, List.set_cons_succ]
        refine readyL (rs := [15]) (by kernel_rfl) (by simp) ?_
        refine AllReadyL.cons rfl (fun K hK => ?_) AllReadyL.nil
        go_simp
        refine hK.out _ _ ?_ (fun hS7 => ?_)
        · exact ⟨trivial, fun h => absurd (h.symm.trans (show _ = true by kernel_rfl)) (by decide)⟩
        clear hK K hS6
        try simp only [Act.put, List.setIfInBounds_toArray, List.set_cons_zero, List.set_cons_succ]
        refine doneL (by kernel_rfl) ?_ _
        have HF := hid (visit_close4 HO1.out HGW.out hB1 hb2n ha1 hfx1 hn1 hat1' hf1n hat2' hf2n hw2 hgrow hown3 hat4 hMB HBW.out hb0)
        generalize ((((w3.setCell ⟨g3, ds.length * 2, none⟩ (.int .i64 kk1)).setCell ⟨g3, ds.length * 2 + 1, none⟩ (.slice aa1 nn1 cc1)).setCell ⟨g3, (ds.length + 1) * 2, none⟩ (.int .i64 kk2)).setCell ⟨g3, (ds.length + 1) * 2 + 1, none⟩ (.slice aa2 nn2 cc2)).setCell ⟨M, 0, none⟩ (.slice (some ⟨g3, 0, none⟩) (ds.length + 2) cp) = WF at HF ⊢
        clear HS0
        go_wp2_with fail
        first | go_ret | go_end0
        obtain ⟨q1, q2⟩ := HF.out
        rw [HST.out]
        exact ⟨⟨_, rfl⟩, _, ⟨q1, ((q2.below hMB hBw (fun b hb => (HOWN.out b hb).1)).cell (p := ⟨L, 0, none⟩) hLM).trans HLC.out, hLM⟩, q2⟩
      refine AllReadyL.cons rfl (fun K hK => ?_) AllReadyL.nil
      go_simp
      refine hK.out _ _ ?_ (fun hS6 => ?_)
      · exact ⟨trivial, fun h => absurd (h.symm.trans (show _ = true by kernel_rfl)) (by decide)⟩
      clear hK K hS5
      try simp only [Act.put, List.setIfInBounds_toArray, List.set_cons_zero, List.set_cons_succ]
      refine readyL (rs := [14]) (by kernel_rfl) (by simp) ?_
      refine AllReadyL.cons rfl (fun K hK => ?_) AllReadyL.nil
      go_simp
      refine hK.out _ _ ?_ (fun hS7 => ?_)
      · exact ⟨trivial, fun h => absurd (h.symm.trans (show _ = true by kernel_rfl)) (by decide)⟩
      clear hK K hS6
      try simp only [Act.put, List.setIfInBounds_toArray, List.set_cons_zero, List.set_cons_succ]
      refine doneL (by kernel_rfl) ?_ _
      have HF := hid (visit_close4 HO1.out HGW.out hB1 hb2n ha1 hfx1 hn1 hat1' hf1n hat2' hf2n hw2 hgrow hown3 hat4 hMB HBW.out hb0)
      have cM : ∀ (W : World) (o : Nat) (x y : Value), (W.setCell ⟨M, 0, none⟩ x).setCell ⟨g3, o, none⟩ y = (W.setCell ⟨g3, o, none⟩ y).setCell ⟨M, 0, none⟩ x := fun W o x y => setCell_comm W ⟨M, 0, none⟩ ⟨g3, o, none⟩ x y hMg
      simp only [cM]
      generalize ((((w3.setCell ⟨g3, ds.length * 2, none⟩ (.int .i64 kk1)).setCell ⟨g3, ds.length * 2 + 1, none⟩ (.slice aa1 nn1 cc1)).setCell ⟨g3, (ds.length + 1) * 2, none⟩ (.int .i64 kk2)).setCell ⟨g3, (ds.length + 1) * 2 + 1, none⟩ (.slice aa2 nn2 cc2)).setCell ⟨M, 0, none⟩ (.slice (some ⟨g3, 0, none⟩) (ds.length + 2) cp) = WF at HF ⊢
      clear HS0
      go_wp2_with fail
      first | go_ret | go_end0
      obtain ⟨q1, q2⟩ := HF.out
      rw [HST.out]
      exact ⟨⟨_, rfl⟩, _, ⟨q1, ((q2.below hMB hBw (fun b hb => (HOWN.out b hb).1)).cell (p := ⟨L, 0, none⟩) hLM).trans HLC.out, hLM⟩, q2⟩
    refine AllReadyL.cons rfl (fun K hK => ?_) AllReadyL.nil
    go_simp
    refine hK.out _ _ ?_ (fun hS5 => ?_)
    · exact ⟨trivial, fun h => absurd (h.symm.trans (show _ = true by kernel_rfl)) (by decide)⟩
    clear hK K hS4
    try simp only [Act.put, List.setIfInBounds_toArray, List.set_cons_zero, List.set_cons_succ]
    refine readyL (rs := [11]) (by kernel_rfl) (by simp) ?_
    refine AllReadyL.cons rfl (fun K hK => ?_) AllReadyL.nil
    go_simp
    refine hK.out _ _ ?_ (fun hS6 => ?_)
    · exact ⟨trivial, fun h => absurd (h.symm.trans (show _ = true by kernel_rfl)) (by decide)⟩
    clear hK K hS5
    try simp only [Act.put, List.setIfInBounds_toArray, List.set_cons_zero, List.set_cons_succ]
    refine takeL (i := 13) (v := ?vc16) rfl (by kernel_rfl) (by kernel_rfl) (by kernel_rfl) (by decide) (fun _ _ _ h => h) (Or.inl ⟨by rfl, ?hyc16⟩) (by assumption) ?_
    case hyc16 => (intro w hSw; (try dsimp only at hSw); go_simp; (try with_reducible rfl))
    try simp only [Act.put, List.setIfInBounds_toArray, List.set_cons_zero, List.set_cons_succ]
    refine readyL (rs := [14]) (by kernel_rfl) (by simp) ?_
    refine AllReadyL.cons rfl (fun K hK => ?_) AllReadyL.nil
    go_simp
    refine hK.out _ _ ?_ (fun hS7 => ?_)
    · exact ⟨trivial, fun h => absurd (h.symm.trans (show _ = true by kernel_rfl)) (by decide)⟩
    clear hK K hS6
    try simp only [Act.put, List.setIfInBounds_toArray, List.set_cons_zero, List.set_cons_succ]
    refine doneL (by kernel_rfl) ?_ _
    have HF := hid (visit_close4 HO1.out HGW.out hB1 hb2n ha1 hfx1 hn1 hat1' hf1n hat2' hf2n hw2 hgrow hown3 hat4 hMB HBW.out hb0)
    have cM : ∀ (W : World) (o : Nat) (x y : Value), (W.setCell ⟨M, 0, none⟩ x).setCell ⟨g3, o, none⟩ y = (W.setCell ⟨g3, o, none⟩ y).setCell ⟨M, 0, none⟩ x := fun W o x y => setCell_comm W ⟨M, 0, none⟩ ⟨g3, o, none⟩ x y hMg
    simp only [cM]
    generalize ((((w3.setCell ⟨g3, ds.length * 2, none⟩ (.int .i64 kk1)).setCell ⟨g3, ds.length * 2 + 1, none⟩ (.slice aa1 nn1 cc1)).setCell ⟨g3, (ds.length + 1) * 2, none⟩ (.int .i64 kk2)).setCell ⟨g3, (ds.length + 1) * 2 + 1, none⟩ (.slice aa2 nn2 cc2)).setCell ⟨M, 0, none⟩ (.slice (some ⟨g3, 0, none⟩) (ds.length + 2) cp) = WF at HF ⊢
    clear HS0
    go_wp2_with fail
    first | go_ret | go_end0
    obtain ⟨q1, q2⟩ := HF.out
    rw [HST.out]
    exact ⟨⟨_, rfl⟩, _, ⟨q1, ((q2.below hMB hBw (fun b hb => (HOWN.out b hb).1)).cell (p := ⟨L, 0, none⟩) hLM).trans HLC.out, hLM⟩, q2⟩
  · have hl' : (lb == lab) = false := by simpa using hl
    go_enter Tryd.func67, Tryd.ntmps67
    go_wp2_with fail
    first | go_ret | go_end0
    have hst : ctStep lab ds (.mk 14 nm num ty fr lb ts) = ds := by simp [ctStep, hl]
    rw [hst]
    exact ⟨⟨_, rfl⟩, _, ⟨⟨g, HO1.out, HGW.out, hMB⟩, yL, hLM⟩, Lr.of_below hb0 _⟩

/-- The document's CastTypes. -/
def ctLst (lab : Int) (t : Tm) : List Ty := if vldC t then ecN (ctStep lab) [] t else []

theorem ctLst_len (lab : Int) (t : Tm) : (ecN (ctStep lab) [] t).length ≤ 2 * (t.sz + 1) := by
  have := ecN_len (ctStep lab) List.length (ctStep_len lab) t []
  simpa using this

set_option maxRecDepth 100000 in
set_option maxHeartbeats 2000000 in
theorem specCastTypes (lab : Int) (t : Tm) (v : Value) (fp : List Nat) (w : World) (hsz : t.sz ≤ 1048576) (hat : t.At w v fp) :
    Calls Tryd.prog 20 #[v, .int .i64 lab] w (MadeS w (ctLst lab t)) := by
  have hlt := hat.lt
  have HLT := hid hlt
  clear hlt
  have hat0 := hat
  obtain ⟨k, nm, num, k1, n1, a1, c1, k2, n2, a2, c2, lb, n3, a3, c3, rfl⟩ := hat.agg
  have hb0 : Below w.heap.size w (w.alloc (Obj.cells #[.int .i64 k, .string nm, .int .i64 num, .int .i64 k1, .slice a1 n1 c1, .int .i64 k2, .slice a2 n2 c2, .int .i64 lb, .slice a3 n3 c3] 34)) := (Below.refl _ _).alloc (Nat.le_refl _) _
  have HV := hid (specCastValid t _ _ _ hsz (hat0.below hb0))
  have HT := hid (show ctLst lab t = if vldC t then ecN (ctStep lab) [] t else [] from rfl)
  have HLN := hid (ctLst_len lab t)
  generalize ctLst lab t = L at *
  generalize vldC t = r at *
  go_enter Tryd.func20, Tryd.ntmps20
  go_wp2_with fail
  refine HV.out.mono ?_
  rintro e w1 ⟨rfl, hb1⟩
  obtain ⟨z0, z1, z2, z3, z4, z5, z6, z7, z8⟩ := box9 hb1
  have b1 := below_trans hb0 hb1
  have hat2 := hat.below b1
  have hal : Below w1.heap.size w1 (w1.alloc (Obj.cells #[] 31)) := (Below.refl _ _).alloc (Nat.le_refl _) _
  cases r
  · go_wp2_with fail
    go_ret
    exact ⟨_, [], rfl, .inl ⟨by rw [HT.out]; rfl, rfl, _, _, rfl⟩, Fresh.nil _ _, below_trans b1 hal⟩
  · replace z0 := cell_keep z0 hal
    replace z1 := cell_keep z1 hal
    replace z2 := cell_keep z2 hal
    replace z3 := cell_keep z3 hal
    replace z4 := cell_keep z4 hal
    replace z5 := cell_keep z5 hal
    replace z6 := cell_keep z6 hal
    replace z7 := cell_keep z7 hal
    replace z8 := cell_keep z8 hal
    have b2 := below_trans b1 hal
    have hG0 : GrowT w1.heap.size [] (.slice (some ⟨w1.heap.size, 0, none⟩) 0 0) [] (w1.alloc (Obj.cells #[] 31)) := by
      refine ⟨[], ⟨rfl, .inr ⟨w1.heap.size, 0, #[], rfl, Nat.le_refl _, alloc_new _ _, Nat.le_refl _, Nat.zero_le _, rfl, rfl⟩⟩, ⟨rfl, rfl⟩, Fresh.nil _ _, by simp⟩
    have HG0 := hid hG0
    have HAT := hid (hat2.below hal)
    have hlt1 : ∀ x ∈ fp, x < w1.heap.size := fun x hx => Nat.lt_of_lt_of_le (HLT.out x hx) b1.size
    have HLT1 := hid hlt1
    have hsz2 : ([] : List Ty).length + 2 * (t.sz + 1) ≤ 4194300 := by simp only [List.length_nil]; omega
    have HS2 := hid hsz2
    clear hlt1 hG0 hat2 hsz2
    go_wp2_with fail
    refine (l4CastTypes_any lab t w1.heap.size [] _ [] _ fp _ HG0.out HAT.out HLT1.out hal.size hsz HS2.out).mono ?_
    rintro e w3 ⟨v', g', rfl, hG, hgr⟩
    obtain ⟨fp', hs', hf'⟩ := hG.done (by unfold maxLen; have := HLN.out; omega)
    have hbl : Below w1.heap.size (w1.alloc (Obj.cells #[] 31)) w3 := hgr.below hal.size (fun b hb => by cases hb; exact Nat.le_refl _)
    have HFIN := hid (show MadeS w L (.returned v') w3 from ⟨v', fp', rfl, by rw [HT.out, if_pos trivial]; exact hs', hf'.mono b1.size, b2.trans (hbl.mono b1.size)⟩)
    clear hs' hf' hG hgr hbl
    go_wp2_with fail
    go_ret
    exact HFIN.out

set_option maxRecDepth 100000 in
set_option maxHeartbeats 2000000 in
theorem implCastTypes (lab : Int) (t : Tm) (v : Value) (fp : List Nat) (w : World) (hsz : t.sz ≤ 1048576) (hF : Forms w) (hat : t.At w v fp) :
    Calls Tryd.prog 21 #[v, .int .i64 lab] w (MadeS w (ctLst lab t)) := by
  have hlt := hat.lt
  have HLT := hid hlt
  clear hlt
  have hat0 := hat
  obtain ⟨k, nm, num, k1, n1, a1, c1, k2, n2, a2, c2, lb, n3, a3, c3, rfl⟩ := hat.agg
  have hbA : Below w.heap.size w (w.alloc (Obj.cells #[.int .i64 k, .string nm, .int .i64 num, .int .i64 k1, .slice a1 n1 c1, .int .i64 k2, .slice a2 n2 c2, .int .i64 lb, .slice a3 n3 c3] 34)) := (Below.refl _ _).alloc (Nat.le_refl _) _
  have hbB : Below (w.alloc (Obj.cells #[.int .i64 k, .string nm, .int .i64 num, .int .i64 k1, .slice a1 n1 c1, .int .i64 k2, .slice a2 n2 c2, .int .i64 lb, .slice a3 n3 c3] 34)).heap.size (w.alloc (Obj.cells #[.int .i64 k, .string nm, .int .i64 num, .int .i64 k1, .slice a1 n1 c1, .int .i64 k2, .slice a2 n2 c2, .int .i64 lb, .slice a3 n3 c3] 34)) ((w.alloc (Obj.cells #[.int .i64 k, .string nm, .int .i64 num, .int .i64 k1, .slice a1 n1 c1, .int .i64 k2, .slice a2 n2 c2, .int .i64 lb, .slice a3 n3 c3] 34)).alloc (Obj.cells #[.int .i64 lab] 3)) := (Below.refl _ _).alloc (Nat.le_refl _) _
  have hb0 := below_trans hbA hbB
  have HV := hid (implCastValid t _ _ _ (hF.below hb0) (hat0.below hb0))
  have HT := hid (show ctLst lab t = if vldC t then ecN (ctStep lab) [] t else [] from rfl)
  have HLN := hid (ctLst_len lab t)
  have HSH := hid (show vldC t = true → shpC 40 t = true from fun h => by unfold vldC at h; simp only [Bool.and_eq_true] at h; exact h.1)
  obtain ⟨z0, z1, z2, z3, z4, z5, z6, z7, z8⟩ := box9 hbB
  have zl : (((w.alloc (Obj.cells #[.int .i64 k, .string nm, .int .i64 num, .int .i64 k1, .slice a1 n1 c1, .int .i64 k2, .slice a2 n2 c2, .int .i64 lb, .slice a3 n3 c3] 34)).alloc (Obj.cells #[.int .i64 lab] 3))).cell? ⟨w.heap.size + 1, 0, none⟩ = some (.int .i64 lab) := by simp
  generalize ctLst lab t = L at *
  generalize vldC t = r at *
  go_enter Tryd.func21, Tryd.ntmps21
  go_wp2_with fail
  refine HV.out.mono ?_
  rintro e w1 ⟨rfl, hb1⟩
  replace z0 := cell_keep z0 hb1
  replace z1 := cell_keep z1 hb1
  replace z2 := cell_keep z2 hb1
  replace z3 := cell_keep z3 hb1
  replace z4 := cell_keep z4 hb1
  replace z5 := cell_keep z5 hb1
  replace z6 := cell_keep z6 hb1
  replace z7 := cell_keep z7 hb1
  replace z8 := cell_keep z8 hb1
  replace zl := cell_keep zl hb1
  have b1 := below_trans hb0 hb1
  have hs0 : w.heap.size + 1 < w1.heap.size := World.block_lt_of_cell? _ _ zl
  have hat2 := hat.below b1
  have hal : Below w1.heap.size w1 (w1.alloc (Obj.cells #[.slice none 0 0] 29)) := (Below.refl _ _).alloc (Nat.le_refl _) _
  cases r
  · go_wp2_with fail
    go_ret
    exact ⟨_, [], rfl, .inl ⟨by rw [HT.out]; rfl, rfl, _, _, rfl⟩, Fresh.nil _ _, b1⟩
  · have HSHP := hid (HSH.out rfl)
    replace z0 := cell_keep z0 hal
    replace z1 := cell_keep z1 hal
    replace z2 := cell_keep z2 hal
    replace z3 := cell_keep z3 hal
    replace z4 := cell_keep z4 hal
    replace z5 := cell_keep z5 hal
    replace z6 := cell_keep z6 hal
    replace z7 := cell_keep z7 hal
    replace z8 := cell_keep z8 hal
    replace zl := cell_keep zl hal
    have hs1 : (w1.alloc (Obj.cells #[.slice none 0 0] 29)).heap.size = w1.heap.size + 1 := by simp
    have HL := hid (show CtSt lab (w.heap.size + 1) w1.heap.size (w1.heap.size + 1) [] (.slice none 0 0) (w1.alloc (Obj.cells #[.slice none 0 0] 29)) from ⟨⟨[], alloc_new _ _, GrowT.zero _ _, Nat.lt_succ_self _⟩, zl, hs0⟩)
    have HAT := hid (hat2.below hal)
    have HLT1 := hid (show ∀ x ∈ fp, x < w1.heap.size from fun x hx => Nat.lt_of_lt_of_le (HLT.out x hx) b1.size)
    have hsz2 : ([] : List Ty).length + 2 * (t.sz + 1) ≤ 4194300 := by simp only [List.length_nil]; omega
    have HS2 := hid hsz2
    clear hat2 hsz2
    go_wp2_with fail
    refine (eachCast_any 67 #[.pointer (some ⟨w.heap.size + 1, 0, none⟩), .pointer (some ⟨w1.heap.size, 0, none⟩)] w1.heap.size (w1.heap.size + 1) (CtSt lab (w.heap.size + 1) w1.heap.size (w1.heap.size + 1)) List.length (ctStep lab) callOk_ct (Nat.lt_succ_self _) (ctStep_len lab)
      (fun a v w w' h hb => ⟨h.1.below hb, cell_keep h.2.1 hb, h.2.2⟩) (fun a v w h => by obtain ⟨⟨g, _, hG, _⟩, _⟩ := h; exact hG.own_ge) (visitCt lab (w.heap.size + 1) w1.heap.size (w1.heap.size + 1))
      t [] (.slice none 0 0) _ fp 40 _ HL.out HAT.out HLT1.out HSHP.out (Nat.le_of_eq hs1.symm) hsz HS2.out).mono ?_
    rintro e w3 ⟨⟨r3, rfl⟩, v', ⟨⟨g', hO, hG, hMB⟩, -, -⟩, hr⟩
    obtain ⟨a', capv', hshape⟩ := hG.shape
    obtain ⟨fp', hs', hf'⟩ := hG.done (by unfold maxLen; have := HLN.out; omega)
    have hc : w3.cell? ⟨w1.heap.size, 0, none⟩ = some v' := by rw [cell_of_block hO]; rfl
    have hbl : Below w1.heap.size (w1.alloc (Obj.cells #[.slice none 0 0] 29)) w3 := hr.below hMB (Nat.le_of_eq hs1.symm) (fun b hb => by cases hb)
    have HFIN := hid (show MadeS w L (.returned v') w3 from ⟨v', fp', rfl, by rw [HT.out, if_pos trivial]; exact hs', hf'.mono (by have := b1.size; omega), b1.trans ((hal.trans (hbl.mono (Nat.le_refl _))).mono b1.size)⟩)
    clear hs' hf' hG hr hbl hO hMB hshape
    go_wp2_with fail
    go_ret
    exact HFIN.out

end Go.Proofs.YtbmlodikfmpfoaaDoor

/- MatchFun and MatchPair, of the specification and of the program. -/
import Derived.Deep.RegionHeld3
import Derived.Test.YtffmpjcjmffdeaaDoorQG11
import Derived.Test.YtffmpjcjmffdeaaDoorQPkA
namespace Go.Proofs.YtffmpjcjmffdeaaDoor
open Go.RowKit

def knd : Ty → Int
  | .mk k _ => k
def kids2 : Ty → List Ty
  | .mk _ ts => ts
def mtOk (q : Int) (t : Ty) : Bool := vld t && (knd t == 1 || knd t == q)
/-- The operand i of a type as one of the kind q. -/
def mtOf (q : Int) (i : Nat) (t : Ty) : Ty := if mtOk q t then (if knd t == 1 then .mk 1 [] else ((kids2 t)[i]?).getD (.mk 0 [])) else .mk 0 []

theorem two_of {q : Int} {ts : List Ty} (hq : q = 4 ∨ q = 5) (hv : vld (.mk q ts) = true) : ∃ a b, ts = [a, b] := by
  have h := (wf_mk (wf_of_vld hv)).1
  have h2 : ts.length = 2 := by
    have : kidsOf q = 2 := by rcases hq with rfl | rfl <;> rfl
    omega
  match ts, h2 with
  | [a, b], _ => exact ⟨a, b, rfl⟩

theorem mt_bad {q : Int} {t : Ty} (h : mtOk q t = false) (i : Nat) : mtOf q i t = .mk 0 [] := by unfold mtOf; rw [h]; rfl
theorem mt_any {q : Int} {ts : List Ty} (h : vld (.mk 1 ts) = true) : mtOk q (.mk 1 ts) = true ∧ ∀ i, mtOf q i (.mk 1 ts) = .mk 1 [] := by
  have e : mtOk q (.mk 1 ts) = true := by simp [mtOk, h, knd]
  refine ⟨e, fun i => ?_⟩
  unfold mtOf
  rw [e]
  rfl
theorem mt_two {q : Int} {a b : Ty} (hq : q = 4 ∨ q = 5) (h : vld (.mk q [a, b]) = true) : mtOk q (.mk q [a, b]) = true ∧ mtOf q 0 (.mk q [a, b]) = a ∧ mtOf q 1 (.mk q [a, b]) = b := by
  have e : mtOk q (.mk q [a, b]) = true := by simp [mtOk, h, knd]
  have hk : (q == 1) = false := by rcases hq with rfl | rfl <;> rfl
  refine ⟨e, ?_, ?_⟩ <;> simp [mtOf, e, knd, hk, kids2]
theorem mt_no {q k : Int} {ts : List Ty} (h1 : k ≠ 1) (h2 : k ≠ q) : mtOk q (.mk k ts) = false := by simp [mtOk, knd, h1, h2]

def MadeTT (w : World) (t u : Ty) (ok : Bool) (e : Ending) (w' : World) : Prop := ∃ v1 v2 f1 f2 M, e = .returned (.tuple #[v1, v2, .bool ok]) ∧ t.At w' v1 f1 ∧ u.At w' v2 f2 ∧ Fresh w.heap.size w' f1 ∧ Fresh w.heap.size w' f2 ∧
  Within w.heap.size M f1 ∧ Within M w'.heap.size f2 ∧ w.heap.size ≤ M ∧ M ≤ w'.heap.size ∧ Below w.heap.size w w'

theorem within_nil (a b : Nat) : Within a b [] := fun b hb => by cases hb

theorem MadeTT.leaf {w w' : World} {k l : Int} {ok : Bool} (hb : Below w.heap.size w w') : MadeTT w (.mk k []) (.mk l []) ok (.returned (.tuple #[.agg #[.int .i64 k, .slice none 0 0], .agg #[.int .i64 l, .slice none 0 0], .bool ok])) w' :=
  ⟨_, _, [], [], w.heap.size, rfl, Ty.at_mk.2 ⟨_, rfl, .inl ⟨rfl, rfl, none, 0, rfl⟩⟩, Ty.at_mk.2 ⟨_, rfl, .inl ⟨rfl, rfl, none, 0, rfl⟩⟩, Fresh.nil _ _, Fresh.nil _ _, within_nil _ _, within_nil _ _, Nat.le_refl _, hb.size, hb⟩

/-- Four stores into two blocks of results: what was made stays, what lay there stays. -/
theorem MadeTT.stored {w w1 : World} {t u : Ty} {ok : Bool} {v1 v2 x y x' y' : Value} {f1 f2 : List Nat} {R M A B : Nat} (h1 : t.At w1 v1 f1) (h2 : u.At w1 v2 f2) (hf1 : Fresh R w1 f1) (hf2 : Fresh R w1 f2) (hi1 : Within R M f1) (hi2 : Within M w1.heap.size f2) (hM : R ≤ M) (hM2 : M ≤ w1.heap.size) (hS : w.heap.size ≤ R)
    (hA : A < R) (hB : B < R) (hA' : w.heap.size ≤ A) (hB' : w.heap.size ≤ B) (hb : Below w.heap.size w w1) :
    MadeTT w t u ok (.returned (.tuple #[v1, v2, .bool ok])) ((((w1.setCell ⟨A, 0, none⟩ x).setCell ⟨A, 1, none⟩ y).setCell ⟨B, 0, none⟩ x').setCell ⟨B, 1, none⟩ y') := by
  have hab := ((((Above.refl R w1).setCell (p := ⟨A, 0, none⟩) hA x).setCell (p := ⟨A, 1, none⟩) hA y).setCell (p := ⟨B, 0, none⟩) hB x').setCell (p := ⟨B, 1, none⟩) hB y'
  have hbb := (((hb.setCell (p := ⟨A, 0, none⟩) hA' x).setCell (p := ⟨A, 1, none⟩) hA' y).setCell (p := ⟨B, 0, none⟩) hB' x').setCell (p := ⟨B, 1, none⟩) hB' y'
  exact ⟨v1, v2, f1, f2, M, rfl, h1.above hab hf1.ge, h2.above hab hf2.ge, (hf1.above hab (Nat.le_refl _)).mono hS, (hf2.above hab (Nat.le_refl _)).mono hS, fun b hb => ⟨Nat.le_trans hS (hi1 b hb).1, (hi1 b hb).2⟩, by simpa using hi2, Nat.le_trans hS hM, by simpa using hM2, hbb⟩

theorem three_boxes {w wr : World} {x y x' y' x2 y2 : Value} {T T' T2 : TypeId} (h : Below (((w.alloc (Obj.cells #[x, y] T)).alloc (Obj.cells #[x', y'] T')).alloc (Obj.cells #[x2, y2] T2)).heap.size (((w.alloc (Obj.cells #[x, y] T)).alloc (Obj.cells #[x', y'] T')).alloc (Obj.cells #[x2, y2] T2)) wr) :
    wr.heap[w.heap.size]? = some (Obj.cells #[x, y] T) ∧ wr.heap[w.heap.size + 1]? = some (Obj.cells #[x', y'] T') ∧ wr.heap[w.heap.size + 1 + 1]? = some (Obj.cells #[x2, y2] T2) := by
  have hs : (w.alloc (Obj.cells #[x, y] T)).heap.size = w.heap.size + 1 := by simp
  have hs2 : ((w.alloc (Obj.cells #[x, y] T)).alloc (Obj.cells #[x', y'] T')).heap.size = w.heap.size + 1 + 1 := by simp
  refine ⟨?_, ?_, ?_⟩
  · rw [h.block w.heap.size (by simp; omega)]
    exact (Below.heap_alloc _ _ _ (by simp; omega)).trans ((Below.heap_alloc _ _ _ (by simp)).trans (alloc_new w _))
  · rw [h.block (w.heap.size + 1) (by simp)]
    exact (Below.heap_alloc _ _ _ (by simp)).trans (by rw [← hs]; exact alloc_new _ _)
  · rw [h.block (w.heap.size + 1 + 1) (by simp), ← hs2]
    exact alloc_new _ _

theorem three_cells {w wr : World} {x y x' y' x2 y2 : Value} {T T' T2 : TypeId} (h : Below (((w.alloc (Obj.cells #[x, y] T)).alloc (Obj.cells #[x', y'] T')).alloc (Obj.cells #[x2, y2] T2)).heap.size (((w.alloc (Obj.cells #[x, y] T)).alloc (Obj.cells #[x', y'] T')).alloc (Obj.cells #[x2, y2] T2)) wr) :
    wr.cell? ⟨w.heap.size, 0, none⟩ = some x ∧ wr.cell? ⟨w.heap.size, 1, none⟩ = some y ∧ wr.cell? ⟨w.heap.size + 1, 0, none⟩ = some x' ∧ wr.cell? ⟨w.heap.size + 1, 1, none⟩ = some y' ∧ wr.cell? ⟨w.heap.size + 1 + 1, 0, none⟩ = some x2 ∧ wr.cell? ⟨w.heap.size + 1 + 1, 1, none⟩ = some y2 ∧
      (∀ o, wr.frozen? ⟨w.heap.size + 1, o, none⟩ = false) ∧ ∀ o, wr.frozen? ⟨w.heap.size + 1 + 1, o, none⟩ = false := by
  obtain ⟨K0, K1, K2⟩ := three_boxes h
  exact ⟨cell_of_block K0, cell_of_block K0, cell_of_block K1, cell_of_block K1, cell_of_block K2, cell_of_block K2, fun o => frozen_of_block K1, fun o => frozen_of_block K2⟩

theorem two_set_keep {y : World} {R b o : Nat} {v : Value} (h : y.cell? ⟨b, o, none⟩ = some v) (hb : b ≠ R) (x z : Value) : ((y.setCell ⟨R, 0, none⟩ x).setCell ⟨R, 1, none⟩ z).cell? ⟨b, o, none⟩ = some v :=
  (cell_setCell_ne _ ⟨R, 1, none⟩ _ _ _ hb).trans ((cell_setCell_ne _ ⟨R, 0, none⟩ _ _ _ hb).trans h)

set_option maxHeartbeats 2000000 in
set_option maxRecDepth 100000 in
theorem l3Match_any (q : Int) (hq : q = 4 ∨ q = 5) (t : Ty) (v : Value) (fp : List Nat) (w : World) (hat : t.At w v fp) (hn : t.cnt ≤ 1048576) (hv : vld t = true) : Calls Tryd.prog 149 #[.int .i64 q, v] w (MadeTT w (mtOf q 0 t) (mtOf q 1 t) (mtOk q t)) := by
  obtain ⟨k, ts, rfl⟩ := t.shape
  obtain ⟨s, rfl, hs⟩ := Ty.at_mk.1 hat
  have hB0 := (((Below.refl w.heap.size w).alloc (Nat.le_refl _) (Obj.cells #[.int .i64 k, s] 32)).alloc (by simp) (Obj.cells #[.int .i64 0, .slice none 0 0] 32)).alloc (by simp; omega) (Obj.cells #[.int .i64 0, .slice none 0 0] 32)
  by_cases h1 : k = 1
  · subst h1
    obtain ⟨a, cap, rfl⟩ := hs.shape
    have HT := hid (mt_any (q := q) hv)
    rw [HT.out.1, HT.out.2, HT.out.2]
    clear hv hn hat hs
    go_enter Tryd.func149, Tryd.ntmps149
    go_wp2_with fail
    refine (l1Any_any _).mono ?_
    rintro e w1 ⟨rfl, hb1⟩
    go_wp2_with fail
    refine (l1Any_any _).mono ?_
    rintro e w2 ⟨rfl, hb2⟩
    have hb := below_trans hb1 hb2
    obtain ⟨x0, x1, p0, p1, r0, r1, pz, rz⟩ := three_cells hb
    have hM : w.heap.size + 1 + 1 < w2.heap.size := by have := hb.size; simp at this; omega
    have hbb := (((((alloc3 hb).setCell (p := ⟨w.heap.size + 1, 0, none⟩) (by simp) (.int .i64 1)).setCell (p := ⟨w.heap.size + 1, 1, none⟩) (by simp) (.slice none 0 0)).setCell (p := ⟨w.heap.size + 1 + 1, 0, none⟩) (by simp; omega) (.int .i64 1)).setCell (p := ⟨w.heap.size + 1 + 1, 1, none⟩) (by simp; omega) (.slice none 0 0))
    go_wp2_with fail
    exact bodyPost_ret (v := .tuple #[.agg #[.int .i64 1, .slice none 0 0], .agg #[.int .i64 1, .slice none 0 0], .bool true]) (by simp [results, Tryd.results149, go_sem, p0, p1, r0, r1]) rfl (MadeTT.leaf hbb)
  by_cases h2 : k = q
  · subst h2
    obtain ⟨a, b, rfl⟩ := two_of hq hv
    obtain ⟨p, cap, rfl, hc, hm, hget⟩ := hs.openA
    have HT := hid (mt_two hq hv)
    rw [HT.out.1, HT.out.2.1, HT.out.2.2]
    obtain ⟨B, o, k1, n1, a1, cap1, g1, hp, hblt, c0, c1, hat1, -⟩ := hget 0 (by simp)
    obtain ⟨B', o', k2, n2, a2, cap2, g2, hp', -, c2, c3, hat2, -⟩ := hget 1 (by simp)
    rw [hp] at hp'
    simp only [Option.some.injEq, Addr.mk.injEq, and_true] at hp'
    obtain ⟨rfl, rfl⟩ := hp'
    subst hp
    simp only [Nat.zero_mul, Nat.add_zero, Nat.one_mul, List.getElem_cons_zero, List.getElem_cons_succ] at c0 c1 c2 c3 hat1 hat2
    simp only [List.length_cons, List.length_nil, Nat.zero_add, Nat.reduceAdd] at hc hm ⊢
    have hna : a.cnt ≤ 1048576 := by simp only [Ty.cnt, cntL, List.length_cons] at hn; omega
    have hnb : b.cnt ≤ 1048576 := by simp only [Ty.cnt, cntL, List.length_cons] at hn; omega
    have hB : Below w.heap.size w (((w.alloc (Obj.cells #[.int .i64 k, .slice (some ⟨B, o, none⟩) 2 cap] 32)).alloc (Obj.cells #[.int .i64 0, .slice none 0 0] 32)).alloc (Obj.cells #[.int .i64 0, .slice none 0 0] 32)) := hB0
    clear hB0
    replace c0 := (hB.cell (p := ⟨B, o, none⟩) hblt).trans c0
    replace c1 := (hB.cell (p := ⟨B, o + 1, none⟩) hblt).trans c1
    replace c2 := (hB.cell (p := ⟨B, o + 2, none⟩) hblt).trans c2
    replace c3 := (hB.cell (p := ⟨B, o + 2 + 1, none⟩) hblt).trans c3
    replace hat1 := hat1.below hB
    replace hat2 := hat2.below hB
    have h1' : (k == 1) = false := by simpa using h1
    have hsz : (((w.alloc (Obj.cells #[.int .i64 k, .slice (some ⟨B, o, none⟩) 2 cap] 32)).alloc (Obj.cells #[.int .i64 0, .slice none 0 0] 32)).alloc (Obj.cells #[.int .i64 0, .slice none 0 0] 32)).heap.size = w.heap.size + 1 + 1 + 1 := by simp
    obtain ⟨X0, X1, P0, P1, R0, R1, PZ, RZ⟩ := three_cells (Below.refl (((w.alloc (Obj.cells #[.int .i64 k, .slice (some ⟨B, o, none⟩) 2 cap] 32)).alloc (Obj.cells #[.int .i64 0, .slice none 0 0] 32)).alloc (Obj.cells #[.int .i64 0, .slice none 0 0] 32)).heap.size _)
    clear hget hv hn hs hat hc hm
    have HAT := hid (And.intro hat1 hat2)
    have HN := hid (And.intro hna hnb)
    have HPZ := hid (And.intro PZ RZ)
    have HSZ := hid hsz
    have HB := hid hB
    clear hat1 hat2 hna hnb PZ RZ hsz hB hq h1
    go_enter Tryd.func149, Tryd.ntmps149
    go_wp2_with fail
    clear X0 h1'
    generalize (((w.alloc (Obj.cells #[.int .i64 k, .slice (some ⟨B, o, none⟩) 2 cap] 32)).alloc (Obj.cells #[.int .i64 0, .slice none 0 0] 32)).alloc (Obj.cells #[.int .i64 0, .slice none 0 0] 32)) = W at *
    have hWs : w.heap.size ≤ W.heap.size := by have := HSZ.out; omega
    have hS : ∀ y, Below W.heap.size W y → (fun w' : World => Below w.heap.size w w' ∧ w'.cell? ⟨w.heap.size, 1, none⟩ = some (.slice (some ⟨B, o, none⟩) 2 cap) ∧ w'.cell? ⟨B, o, none⟩ = some (.int .i64 k1) ∧ w'.cell? ⟨B, o + 1, none⟩ = some (.slice a1 n1 cap1) ∧ w'.cell? ⟨B, o + 2, none⟩ = some (.int .i64 k2) ∧ w'.cell? ⟨B, o + 2 + 1, none⟩ = some (.slice a2 n2 cap2)) y := fun y hB => ⟨HB.out.trans (hB.mono hWs), cell_keep X1 hB, cell_keep c0 hB, cell_keep c1 hB, cell_keep c2 hB, cell_keep c3 hB⟩
    have hS2 : ∀ y, (fun w' : World => Below w.heap.size w w' ∧ w'.cell? ⟨w.heap.size, 1, none⟩ = some (.slice (some ⟨B, o, none⟩) 2 cap) ∧ w'.cell? ⟨B, o, none⟩ = some (.int .i64 k1) ∧ w'.cell? ⟨B, o + 1, none⟩ = some (.slice a1 n1 cap1) ∧ w'.cell? ⟨B, o + 2, none⟩ = some (.int .i64 k2) ∧ w'.cell? ⟨B, o + 2 + 1, none⟩ = some (.slice a2 n2 cap2)) y → ∀ x z, (fun w' : World => Below w.heap.size w w' ∧ w'.cell? ⟨w.heap.size, 1, none⟩ = some (.slice (some ⟨B, o, none⟩) 2 cap) ∧ w'.cell? ⟨B, o, none⟩ = some (.int .i64 k1) ∧ w'.cell? ⟨B, o + 1, none⟩ = some (.slice a1 n1 cap1) ∧ w'.cell? ⟨B, o + 2, none⟩ = some (.int .i64 k2) ∧ w'.cell? ⟨B, o + 2 + 1, none⟩ = some (.slice a2 n2 cap2)) ((y.setCell ⟨w.heap.size + 1, 0, none⟩ x).setCell ⟨w.heap.size + 1, 1, none⟩ z) := fun y ⟨hbw, e0, d0, d1, d2, d3⟩ x z => ⟨(hbw.setCell (p := ⟨w.heap.size + 1, 0, none⟩) (by simp) _).setCell (p := ⟨w.heap.size + 1, 1, none⟩) (by simp) _, two_set_keep e0 (by omega) _ _, two_set_keep d0 (by omega) _ _, two_set_keep d1 (by omega) _ _, two_set_keep d2 (by omega) _ _, two_set_keep d3 (by omega) _ _⟩
    have hS3 : ∀ y, (fun w' : World => Below w.heap.size w w' ∧ w'.cell? ⟨w.heap.size, 1, none⟩ = some (.slice (some ⟨B, o, none⟩) 2 cap) ∧ w'.cell? ⟨B, o, none⟩ = some (.int .i64 k1) ∧ w'.cell? ⟨B, o + 1, none⟩ = some (.slice a1 n1 cap1) ∧ w'.cell? ⟨B, o + 2, none⟩ = some (.int .i64 k2) ∧ w'.cell? ⟨B, o + 2 + 1, none⟩ = some (.slice a2 n2 cap2)) y → ∀ x z, (fun w' : World => Below w.heap.size w w' ∧ w'.cell? ⟨w.heap.size, 1, none⟩ = some (.slice (some ⟨B, o, none⟩) 2 cap) ∧ w'.cell? ⟨B, o, none⟩ = some (.int .i64 k1) ∧ w'.cell? ⟨B, o + 1, none⟩ = some (.slice a1 n1 cap1) ∧ w'.cell? ⟨B, o + 2, none⟩ = some (.int .i64 k2) ∧ w'.cell? ⟨B, o + 2 + 1, none⟩ = some (.slice a2 n2 cap2)) ((y.setCell ⟨w.heap.size + 1 + 1, 0, none⟩ x).setCell ⟨w.heap.size + 1 + 1, 1, none⟩ z) := fun y ⟨hbw, e0, d0, d1, d2, d3⟩ x z => ⟨(hbw.setCell (p := ⟨w.heap.size + 1 + 1, 0, none⟩) (by simp; omega) _).setCell (p := ⟨w.heap.size + 1 + 1, 1, none⟩) (by simp; omega) _, two_set_keep e0 (by omega) _ _, two_set_keep d0 (by omega) _ _, two_set_keep d1 (by omega) _ _, two_set_keep d2 (by omega) _ _, two_set_keep d3 (by omega) _ _⟩
    have HS := hid (And.intro hS (And.intro hS2 hS3))
    have S0 := hid (hS _ (below_drew W))
    clear hS hS2 hS3
    go_region_held3 (fun w' => Below w.heap.size w w' ∧ w'.cell? ⟨w.heap.size, 1, none⟩ = some (.slice (some ⟨B, o, none⟩) 2 cap) ∧ w'.cell? ⟨B, o, none⟩ = some (.int .i64 k1) ∧ w'.cell? ⟨B, o + 1, none⟩ = some (.slice a1 n1 cap1) ∧ w'.cell? ⟨B, o + 2, none⟩ = some (.int .i64 k2) ∧ w'.cell? ⟨B, o + 2 + 1, none⟩ = some (.slice a2 n2 cap2))
      ((first | with_reducible exact S0.out | with_reducible exact S1.out | with_reducible exact S2.out | with_reducible exact S3.out _ _ | with_reducible exact S4.out _ _ _ _))
      (first
        | (go_at_call 124; refine (l1Copy_any b _ _ _ (HAT.out.2.below hk1) HN.out.2).mono ?_; rintro e y2 ⟨vb, fb, rfl, hb, hfb, hyb⟩; have hk2 := below_trans hk1 hyb; obtain ⟨kb, nb, ab, capb, rfl⟩ := hb.agg; have S2 := hid (HS.out.1 _ hk2); have S3 := hid (HS.out.2.1 _ S2.out); have S4 := hid (fun x z => HS.out.2.2 _ (S3.out x z)); have p0 := cell_keep P0 hk2; have p1 := cell_keep P1 hk2; have r0 := cell_keep R0 hk2; have r1 := cell_keep R1 hk2; have hMy : w.heap.size + 1 + 1 < y2.heap.size := (by have h7 := hk2.size; have h8 := HSZ.out; omega); have pz : ∀ o, y2.frozen? ⟨w.heap.size + 1, o, none⟩ = false := fun o => (hk2.frozen (p := ⟨w.heap.size + 1, o, none⟩) (by have h8 := HSZ.out; simp; omega)).trans (HPZ.out.1 o); have rz : ∀ o, y2.frozen? ⟨w.heap.size + 1 + 1, o, none⟩ = false := fun o => (hk2.frozen (p := ⟨w.heap.size + 1 + 1, o, none⟩) (by have h8 := HSZ.out; simp; omega)).trans (HPZ.out.2 o))
        | (go_at_call 124; refine (l1Copy_any a _ _ _ (HAT.out.1.below (below_drew W)) HN.out.1).mono ?_; rintro e y1 ⟨va, fa, rfl, ha, hfa, hya⟩; obtain ⟨ka, na, aa, capa, rfl⟩ := ha.agg; have hk1 := below_trans (below_drew W) hya; have S1 := hid (HS.out.1 _ hk1)))
    have FIN := hid (fun x z x' z' => MadeTT.stored (w := w) (ok := true) (x := x) (y := z) (x' := x') (y' := z') (A := w.heap.size + 1) (B := w.heap.size + 1 + 1) (R := W.heap.size) (M := y1.heap.size) (ha.below hyb) hb (hfa.below hyb) (hfb.mono hk1.size) hfa.within hfb.within hk1.size hyb.size hWs (by have := HSZ.out; omega) (by have := HSZ.out; omega) (by omega) (by omega) S2.out.1)
    clear HS S0 S1 S2 S3 S4 ha hb hfa hfb hya hyb hk1 hk2 HB HSZ HPZ HAT hWs
    go_wp2_with fail
    exact bodyPost_ret (v := .tuple #[.agg #[.int .i64 ka, .slice aa na capa], .agg #[.int .i64 kb, .slice ab nb capb], .bool true]) (by simp [results, Tryd.results149, go_sem, p0, p1, r0, r1]) rfl (FIN.out _ _ _ _)
  have HT := hid (mt_no (ts := ts) h1 h2)
  rw [mt_bad HT.out, mt_bad HT.out, HT.out]
  obtain ⟨a, cap, rfl⟩ := hs.shape
  have h1' : (k == 1) = false := by simpa using h1
  have h2' : (k != q) = true := by simpa using h2
  have h2'' : (k == q) = false := by simpa using h2
  obtain ⟨x0, x1, p0, p1, r0, r1, pz, rz⟩ := three_cells (Below.refl (((w.alloc (Obj.cells #[.int .i64 k, .slice a ts.length cap] 32)).alloc (Obj.cells #[.int .i64 0, .slice none 0 0] 32)).alloc (Obj.cells #[.int .i64 0, .slice none 0 0] 32)).heap.size _)
  have hbb := (((hB0.setCell (p := ⟨w.heap.size + 1, 0, none⟩) (by simp) (.int .i64 0)).setCell (p := ⟨w.heap.size + 1, 1, none⟩) (by simp) (.slice none 0 0)).setCell (p := ⟨w.heap.size + 1 + 1, 0, none⟩) (by simp; omega) (.int .i64 0)).setCell (p := ⟨w.heap.size + 1 + 1, 1, none⟩) (by simp; omega) (.slice none 0 0)
  clear hv hn hat hs
  go_enter Tryd.func149, Tryd.ntmps149
  go_wp2_with fail
  exact bodyPost_ret (v := .tuple #[.agg #[.int .i64 0, .slice none 0 0], .agg #[.int .i64 0, .slice none 0 0], .bool false]) (by simp [results, Tryd.results149, go_sem, p0, p1, r0, r1]) rfl (MadeTT.leaf hB0)

end Go.Proofs.YtffmpjcjmffdeaaDoor

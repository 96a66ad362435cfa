/- The specification's l2With: a term with other types. -/
import Derived.Test.YtgekfnodmgkdaaaDoorPkB
import Derived.Test.YtgekfnodmgkdaaaDoorRwA
import Derived.Test.YtgekfnodmgkdaaaDoorPkA
namespace Go.Proofs.YtgekfnodmgkdaaaDoor
open Go.RowKit

theorem GrowM.own_ge {B : Nat} {ds : List Tm} {v : Value} {fp : List Nat} {w : World} (h : GrowM B ds v fp w) : ∀ b, v.ownBlock = some b → B ≤ b ∧ b < w.heap.size := by
  obtain ⟨xs, ho, _⟩ := h
  exact ho.lt

theorem wiL_len (T : Nat → Ty) : ∀ (ts : List Tm) (n : Nat), (wiL T n ts).length = ts.length
  | [], _ => by simp only [wiL, List.length_nil]
  | t :: ts, n => by simp only [wiL, List.length_cons, wiL_len T ts]

theorem wiL_take (T : Nat → Ty) : ∀ (ts : List Tm) (n j : Nat) (h : j < ts.length), (wiL T n ts).take (j + 1) = (wiL T n ts).take j ++ [wiT T (n + (tysL (ts.take j)).length) ts[j]]
  | t :: ts, n, 0, _ => by simp [wiL, tysL]
  | t :: ts, n, j + 1, h => by
    have := wiL_take T ts (n + (tysOf t).length) j (by simpa using h)
    simp only [wiL, List.take_succ_cons, tysL, List.length_append, List.getElem_cons_succ, List.cons_append, this]
    rw [Nat.add_assoc]

/-- The loop over the operands: what stands behind some rounds. -/
def WiI (w : World) (B : Nat) (ev : Array Value) (pre : List Value) (ty fr : Ty) (v1 v2 : Value) (g1 g2 : List Nat) (us : List Tm) (x8 : Value) (f : List Nat) (wr : World) : Prop :=
  wr.heap[w.heap.size]? = some (.cells ev 35 (0, 0)) ∧ wr.heap[w.heap.size + 1]? = some (Obj.cells #[.int .i64 0, .string ByteArray.empty, .int .i64 0, .int .i64 0, .slice none 0 0, .int .i64 0, .slice none 0 0, .int .i64 0, .slice none 0 0] 35) ∧ wr.heap[w.heap.size + 1 + 1]? = some (.cells (pre ++ [x8]).toArray 35 (0, 0)) ∧ ty.At wr v1 g1 ∧ fr.At wr v2 g2 ∧ Fresh (w.heap.size + 1 + 1 + 1) wr (g1 ++ g2) ∧
    (∀ b ∈ g1 ++ g2, b < B) ∧ w.heap.size + 1 + 1 < B ∧ B ≤ wr.heap.size ∧ GrowM B us x8 f wr ∧ Below w.heap.size w wr

theorem WiI.step {w wr w2 w3 : World} {B : Nat} {ev : Array Value} {pre vs xs : List Value} {ty fr : Ty} {v1 v2 x8 : Value} {g1 g2 f f' : List Nat} {us : List Tm} {u : Tm} {g cp n : Nat} (h : WiI w B ev pre ty fr v1 v2 g1 g2 us x8 f wr) (hpre : pre.length = 8)
    (hb : Below (wr.alloc (Obj.cells #[.int .i64 0, .string ByteArray.empty, .int .i64 0, .int .i64 0, .slice none 0 0, .int .i64 0, .slice none 0 0, .int .i64 0, .slice none 0 0] 35)).heap.size (wr.alloc (Obj.cells #[.int .i64 0, .string ByteArray.empty, .int .i64 0, .int .i64 0, .slice none 0 0, .int .i64 0, .slice none 0 0, .int .i64 0, .slice none 0 0] 35)) w2) (hat : u.At w2 (.agg vs.toArray) f') (hf : Fresh (wr.alloc (Obj.cells #[.int .i64 0, .string ByteArray.empty, .int .i64 0, .int .i64 0, .slice none 0 0, .int .i64 0, .slice none 0 0, .int .i64 0, .slice none 0 0] 35)).heap.size w2 f')
    (ha1 : AtXM (put w2 wr.heap.size 0 vs) us xs f) (hf1 : Fresh B (put w2 wr.heap.size 0 vs) f) (hn1 : ∀ b, x8.ownBlock = some b → b ∉ f)
    (hgrow : ((put w2 wr.heap.size 0 vs).alloc (Obj.cells vs.toArray 35)).grownBy w3 x8.ownBlock) (hown3 : w3.ownsRow B 35 9 (.slice (some ⟨g, 0, none⟩) n cp) n (xs ++ vs)) (hn : n = us.length + 1) (hat3 : x8.ownBlock = some g ∨ g = ((put w2 wr.heap.size 0 vs).alloc (Obj.cells vs.toArray 35)).heap.size) :
    WiI w B ev pre ty fr v1 v2 g1 g2 (us ++ [u]) (.slice (some ⟨g, 0, none⟩) n cp) (f ++ f') (w3.setCell ⟨w.heap.size + 1 + 1, 8, none⟩ (.slice (some ⟨g, 0, none⟩) n cp)) := by
  obtain ⟨hB0, hB1, hB2, h1, h2, hg, hlt, hS, hBw, hG, hbb⟩ := h
  have hx8 := hG.own_ge
  have hGb := hG.block
  have hb4 : Below wr.heap.size wr (put w2 wr.heap.size 0 vs) := below_put (alloc1 hb) (Nat.le_refl _)
  have hs4 : (put w2 wr.heap.size 0 vs).heap.size = w2.heap.size := size_put
  have hs2 : wr.heap.size + 1 ≤ w2.heap.size := by have := hb.size; simpa using this
  have hal : Below (put w2 wr.heap.size 0 vs).heap.size (put w2 wr.heap.size 0 vs) ((put w2 wr.heap.size 0 vs).alloc (Obj.cells vs.toArray 35)) := (Below.refl _ _).alloc (Nat.le_refl _) _
  have h9 : vs.length = 9 := by simpa using Tm.size9 hat
  have hk : ∀ k, k < wr.heap.size → some k ≠ x8.ownBlock → w3.heap[k]? = wr.heap[k]? := fun k hk hn => by
    rw [hgrow.block k (by have := hal.size; omega) hn, hal.block k (by omega), hb4.block k hk]
  have hne : ∀ k, k < B → some k ≠ x8.ownBlock := fun k hk e => by have := (hx8 k e.symm).1; omega
  have hs3 : w2.heap.size ≤ w3.heap.size := by have := hgrow.size; have := hal.size; omega
  have hgB : B ≤ g := by
    rcases hat3 with e | e
    · exact (hx8 g e).1
    · have := hal.size
      omega
  have ab : Above (wr.heap.size + 1) w2 (put w2 wr.heap.size 0 vs) := (Above.refl _ _).put (Nat.lt_succ_self _)
  have hal0 : (wr.alloc (Obj.cells #[.int .i64 0, .string ByteArray.empty, .int .i64 0, .int .i64 0, .slice none 0 0, .int .i64 0, .slice none 0 0, .int .i64 0, .slice none 0 0] 35)).heap.size = wr.heap.size + 1 := by simp
  rw [hal0] at hf
  have hat4 := hat.above ab hf.ge
  have hf4 := hf.above ab (Nat.le_refl _)
  have hG3 : GrowM B (us ++ [u]) (.slice (some ⟨g, 0, none⟩) n cp) (f ++ f') w3 := GrowM.step (w := wr) ha1 hf1 hn1 hGb.1 hGb.2 hBw h9 hat4 (hf4.mono (by omega)) hal hgrow hown3 hn hat3
  have q : ∀ (t : Ty) (v : Value) (gg : List Nat), t.At wr v gg → (∀ b ∈ gg, b < B) → t.At w3 v gg := fun t v gg ht hl => ht.congr fun b hb o => World.cell?_of_block (w := wr) (a := ⟨b, o, none⟩) (hk b (ht.lt b hb) (hne b (hl b hb)))
  have q1 := q _ _ _ h1 (fun b hb => hlt b (by simp [hb]))
  have q2 := q _ _ _ h2 (fun b hb => hlt b (by simp [hb]))
  have q3 : Fresh (w.heap.size + 1 + 1 + 1) w3 (g1 ++ g2) := ⟨hg.1, fun b hb => ⟨(hg.2 b hb).1, by have := (hg.2 b hb).2.1; omega, fun o => (World.frozen?_of_block (w := wr) (a := ⟨b, o, none⟩) (hk b (hg.2 b hb).2.1 (hne b (hlt b hb)))).trans ((hg.2 b hb).2.2 o)⟩⟩
  have hd : ∀ b ∈ g1 ++ g2, b ≠ w.heap.size + 1 + 1 := fun b hb => by have := (hg.2 b hb).1; omega
  have b3 : Below w.heap.size w w3 := ⟨hgrow.os.trans (hal.os.trans (hb4.os.trans hbb.os)), hgrow.tape.trans (hal.tape.trans (hb4.tape.trans hbb.tape)), hgrow.output.trans (hal.output.trans (hb4.output.trans hbb.output)), by have := hbb.size; omega, fun k hk' => (hk k (by have := hbb.size; omega) (hne k (by omega))).trans (hbb.block k hk')⟩
  refine ⟨blk_ne ((hk _ (by omega) (hne _ (by omega))).trans hB0) (by simp; omega), blk_ne ((hk _ (by omega) (hne _ (by omega))).trans hB1) (by simp), ?_, q1.setCell (a := ⟨w.heap.size + 1 + 1, 8, none⟩) (fun b hb => hd b (by simp [hb])) _, q2.setCell (a := ⟨w.heap.size + 1 + 1, 8, none⟩) (fun b hb => hd b (by simp [hb])) _,
    q3.setCell (a := ⟨w.heap.size + 1 + 1, 8, none⟩) hd _, hlt, hS, by rw [size_setCell]; omega, hG3.setCell (by simpa using hS) _, b3.setCell (p := ⟨w.heap.size + 1 + 1, 8, none⟩) (by simp; omega) _⟩
  rw [heap_setCell_at ((hk _ (by omega) (hne _ (by omega))).trans hB2)]
  match pre, hpre with
  | [_, _, _, _, _, _, _, _], _ => rfl

theorem WiI.done {w wr : World} {B : Nat} {ev : Array Value} {pre : List Value} {ty fr : Ty} {g1 g2 f : List Nat} {us : List Tm} {x8 : Value} {k : Int} {nm : ByteArray} {num lb : Int} {k1 k2 : Int} {n1 n2 c1 c2 : Nat} {a1 a2 : Option Addr}
    (h : WiI w B ev pre ty fr (.agg #[.int .i64 k1, .slice a1 n1 c1]) (.agg #[.int .i64 k2, .slice a2 n2 c2]) g1 g2 us x8 f wr) (hnm : nm.size ≤ 9223372036854775807) (hm : us.length ≤ maxLen)
    (hpre : pre = [.int .i64 k, .string nm, .int .i64 num, .int .i64 k1, .slice a1 n1 c1, .int .i64 k2, .slice a2 n2 c2, .int .i64 lb]) :
    ∃ f', (Tm.mk k nm num ty fr lb us).At (put wr (w.heap.size + 1) 0 (pre ++ [x8])) (.agg (pre ++ [x8]).toArray) f' ∧ Fresh w.heap.size (put wr (w.heap.size + 1) 0 (pre ++ [x8])) f' ∧ Below w.heap.size w (put wr (w.heap.size + 1) 0 (pre ++ [x8])) := by
  subst hpre
  obtain ⟨hB0, hB1, hB2, h1, h2, hg, hlt, hS, hBw, hG, hbb⟩ := h
  obtain ⟨fp, hs, hf⟩ := hG.done hm
  have ab : Above (w.heap.size + 1 + 1) wr (put wr (w.heap.size + 1) 0 ([.int .i64 k, .string nm, .int .i64 num, .int .i64 k1, .slice a1 n1 c1, .int .i64 k2, .slice a2 n2 c2, .int .i64 lb] ++ [x8])) := (Above.refl _ _).put (Nat.lt_succ_self _)
  have q1 := h1.above ab (fun b hb => by have := hg.ge b (by simp [hb]); omega)
  have q2 := h2.above ab (fun b hb => by have := hg.ge b (by simp [hb]); omega)
  have q3 := hs.above ab (fun b hb => by have := hf.ge b hb; omega)
  refine ⟨g1 ++ (g2 ++ fp), Tm.at_mk.2 ⟨_, _, _, _, _, g1, g2, fp, rfl, hnm, q1, q2, rfl, q3⟩, ?_, below_put hbb (by omega)⟩
  have F1 := (hg.above ab (by omega)).mono (B' := w.heap.size) (by omega)
  have F2 := (hf.above ab (by omega)).mono (B' := w.heap.size) (by omega)
  rw [← List.append_assoc]
  refine ⟨List.nodup_append.2 ⟨F1.1, F2.1, fun a ha b hb e => ?_⟩, fun b hb => ?_⟩
  · have := hlt a ha
    have := hf.ge b hb
    omega
  · rcases List.mem_append.1 hb with hb | hb
    · exact F1.2 b hb
    · exact F2.2 b hb

theorem WiI.keep {w wr w2 w3 : World} {B : Nat} {ev : Array Value} {pre vs : List Value} {ty fr : Ty} {v1 v2 x8 : Value} {g1 g2 f : List Nat} {us : List Tm} (h : WiI w B ev pre ty fr v1 v2 g1 g2 us x8 f wr)
    (hb : Below (wr.alloc (Obj.cells #[.int .i64 0, .string ByteArray.empty, .int .i64 0, .int .i64 0, .slice none 0 0, .int .i64 0, .slice none 0 0, .int .i64 0, .slice none 0 0] 35)).heap.size (wr.alloc (Obj.cells #[.int .i64 0, .string ByteArray.empty, .int .i64 0, .int .i64 0, .slice none 0 0, .int .i64 0, .slice none 0 0, .int .i64 0, .slice none 0 0] 35)) w2) (hgrow : ((put w2 wr.heap.size 0 vs).alloc (Obj.cells vs.toArray 35)).grownBy w3 x8.ownBlock) : ∀ k, k < B → w3.heap[k]? = wr.heap[k]? := by
  obtain ⟨hB0, hB1, hB2, h1, h2, hg, hlt, hS, hBw, hG, hbb⟩ := h
  intro k hk
  have hb4 : Below wr.heap.size wr (put w2 wr.heap.size 0 vs) := below_put (alloc1 hb) (Nat.le_refl _)
  have hs4 : (put w2 wr.heap.size 0 vs).heap.size = w2.heap.size := size_put
  have hs2 : wr.heap.size + 1 ≤ w2.heap.size := by have := hb.size; simpa using this
  have hal : Below (put w2 wr.heap.size 0 vs).heap.size (put w2 wr.heap.size 0 vs) ((put w2 wr.heap.size 0 vs).alloc (Obj.cells vs.toArray 35)) := (Below.refl _ _).alloc (Nat.le_refl _) _
  rw [hgrow.block k (by have := hal.size; omega) (fun e => by have := (hG.own_ge k e.symm).1; omega), hal.block k (by omega), hb4.block k (by omega)]

/-- The types of a list, from an index on. -/
def lstT (L : List Ty) (n : Nat) : Ty := (L[n]?).getD (.mk 0 [])

def WsOut (w : World) (n : Nat) (t : Tm) (e : Ending) (w' : World) : Prop := ∃ v f, e = .returned (.tuple #[v, .int .i64 n]) ∧ t.At w' v f ∧ Fresh w.heap.size w' f ∧ Below w.heap.size w w'

end Go.Proofs.YtgekfnodmgkdaaaDoor

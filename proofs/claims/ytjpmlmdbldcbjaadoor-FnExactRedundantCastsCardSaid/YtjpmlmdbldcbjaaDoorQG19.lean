/- The specification's l2With: a term with other types. The program's EraseTerm. The specification's WithTypes. The specification's EraseTerm. -/
import Derived.Test.YtjpmlmdbldcbjaaDoorQPkB
import Derived.Test.YtjpmlmdbldcbjaaDoorQRwC
import Derived.Test.YtjpmlmdbldcbjaaDoorQPkA
import Derived.Test.YtjpmlmdbldcbjaaDoorQCnM
import Derived.Test.YtjpmlmdbldcbjaaDoorQG11
namespace Go.Proofs.YtjpmlmdbldcbjaaDoor
open Go.RowKit

theorem GrowM.own_ge {B : Nat} {ds : List Tm} {v : Value} {fp : List Nat} {w : World} (h : GrowM B ds v fp w) : ∀ b, v.ownBlock = some b → B ≤ b ∧ b < w.heap.size := by
  obtain ⟨xs, ho, _⟩ := h
  exact ho.lt

/-- The loop over the operands: what stands behind some rounds. -/
def WiI (w : World) (B : Nat) (ev : Array Value) (pre : List Value) (ty fr : Ty) (v1 v2 : Value) (g1 g2 : List Nat) (us : List Tm) (x8 : Value) (f : List Nat) (wr : World) : Prop :=
  wr.heap[w.heap.size]? = some (.cells ev 34 (0, 0)) ∧ wr.heap[w.heap.size + 1]? = some (Obj.cells #[.int .i64 0, .string ByteArray.empty, .int .i64 0, .int .i64 0, .slice none 0 0, .int .i64 0, .slice none 0 0, .int .i64 0, .slice none 0 0] 34) ∧ wr.heap[w.heap.size + 1 + 1]? = some (.cells (pre ++ [x8]).toArray 34 (0, 0)) ∧ ty.At wr v1 g1 ∧ fr.At wr v2 g2 ∧ Fresh (w.heap.size + 1 + 1 + 1) wr (g1 ++ g2) ∧
    (∀ b ∈ g1 ++ g2, b < B) ∧ w.heap.size + 1 + 1 < B ∧ B ≤ wr.heap.size ∧ GrowM B us x8 f wr ∧ Below w.heap.size w wr

theorem WiI.step {w wr w2 w3 : World} {B : Nat} {ev : Array Value} {pre vs xs : List Value} {ty fr : Ty} {v1 v2 x8 : Value} {g1 g2 f f' : List Nat} {us : List Tm} {u : Tm} {g cp n : Nat} (h : WiI w B ev pre ty fr v1 v2 g1 g2 us x8 f wr) (hpre : pre.length = 8)
    (hb : Below (wr.alloc (Obj.cells #[.int .i64 0, .string ByteArray.empty, .int .i64 0, .int .i64 0, .slice none 0 0, .int .i64 0, .slice none 0 0, .int .i64 0, .slice none 0 0] 34)).heap.size (wr.alloc (Obj.cells #[.int .i64 0, .string ByteArray.empty, .int .i64 0, .int .i64 0, .slice none 0 0, .int .i64 0, .slice none 0 0, .int .i64 0, .slice none 0 0] 34)) w2) (hat : u.At w2 (.agg vs.toArray) f') (hf : Fresh (wr.alloc (Obj.cells #[.int .i64 0, .string ByteArray.empty, .int .i64 0, .int .i64 0, .slice none 0 0, .int .i64 0, .slice none 0 0, .int .i64 0, .slice none 0 0] 34)).heap.size w2 f')
    (ha1 : AtXM (put w2 wr.heap.size 0 vs) us xs f) (hf1 : Fresh B (put w2 wr.heap.size 0 vs) f) (hn1 : ∀ b, x8.ownBlock = some b → b ∉ f)
    (hgrow : ((put w2 wr.heap.size 0 vs).alloc (Obj.cells vs.toArray 34)).grownBy w3 x8.ownBlock) (hown3 : w3.ownsRow B 34 9 (.slice (some ⟨g, 0, none⟩) n cp) n (xs ++ vs)) (hn : n = us.length + 1) (hat3 : x8.ownBlock = some g ∨ g = ((put w2 wr.heap.size 0 vs).alloc (Obj.cells vs.toArray 34)).heap.size) :
    WiI w B ev pre ty fr v1 v2 g1 g2 (us ++ [u]) (.slice (some ⟨g, 0, none⟩) n cp) (f ++ f') (w3.setCell ⟨w.heap.size + 1 + 1, 8, none⟩ (.slice (some ⟨g, 0, none⟩) n cp)) := by
  obtain ⟨hB0, hB1, hB2, h1, h2, hg, hlt, hS, hBw, hG, hbb⟩ := h
  have hx8 := hG.own_ge
  have hGb := hG.block
  have hb4 : Below wr.heap.size wr (put w2 wr.heap.size 0 vs) := below_put (alloc1 hb) (Nat.le_refl _)
  have hs4 : (put w2 wr.heap.size 0 vs).heap.size = w2.heap.size := size_put
  have hs2 : wr.heap.size + 1 ≤ w2.heap.size := by have := hb.size; simpa using this
  have hal : Below (put w2 wr.heap.size 0 vs).heap.size (put w2 wr.heap.size 0 vs) ((put w2 wr.heap.size 0 vs).alloc (Obj.cells vs.toArray 34)) := (Below.refl _ _).alloc (Nat.le_refl _) _
  have h9 : vs.length = 9 := by simpa using Tm.size9 hat
  have hk : ∀ k, k < wr.heap.size → some k ≠ x8.ownBlock → w3.heap[k]? = wr.heap[k]? := fun k hk hn => by
    rw [hgrow.block k (by have := hal.size; omega) hn, hal.block k (by omega), hb4.block k hk]
  have hne : ∀ k, k < B → some k ≠ x8.ownBlock := fun k hk e => by have := (hx8 k e.symm).1; omega
  have hs3 : w2.heap.size ≤ w3.heap.size := by have := hgrow.size; have := hal.size; omega
  have hgB : B ≤ g := by
    rcases hat3 with e | e
    · exact (hx8 g e).1
    · have := hal.size
      omega
  have ab : Above (wr.heap.size + 1) w2 (put w2 wr.heap.size 0 vs) := (Above.refl _ _).put (Nat.lt_succ_self _)
  have hal0 : (wr.alloc (Obj.cells #[.int .i64 0, .string ByteArray.empty, .int .i64 0, .int .i64 0, .slice none 0 0, .int .i64 0, .slice none 0 0, .int .i64 0, .slice none 0 0] 34)).heap.size = wr.heap.size + 1 := by simp
  rw [hal0] at hf
  have hat4 := hat.above ab hf.ge
  have hf4 := hf.above ab (Nat.le_refl _)
  have hG3 : GrowM B (us ++ [u]) (.slice (some ⟨g, 0, none⟩) n cp) (f ++ f') w3 := GrowM.step (w := wr) ha1 hf1 hn1 hGb.1 hGb.2 hBw h9 hat4 (hf4.mono (by omega)) hal hgrow hown3 hn hat3
  have q : ∀ (t : Ty) (v : Value) (gg : List Nat), t.At wr v gg → (∀ b ∈ gg, b < B) → t.At w3 v gg := fun t v gg ht hl => ht.congr fun b hb o => World.cell?_of_block (w := wr) (a := ⟨b, o, none⟩) (hk b (ht.lt b hb) (hne b (hl b hb)))
  have q1 := q _ _ _ h1 (fun b hb => hlt b (by simp [hb]))
  have q2 := q _ _ _ h2 (fun b hb => hlt b (by simp [hb]))
  have q3 : Fresh (w.heap.size + 1 + 1 + 1) w3 (g1 ++ g2) := ⟨hg.1, fun b hb => ⟨(hg.2 b hb).1, by have := (hg.2 b hb).2.1; omega, fun o => (World.frozen?_of_block (w := wr) (a := ⟨b, o, none⟩) (hk b (hg.2 b hb).2.1 (hne b (hlt b hb)))).trans ((hg.2 b hb).2.2 o)⟩⟩
  have hd : ∀ b ∈ g1 ++ g2, b ≠ w.heap.size + 1 + 1 := fun b hb => by have := (hg.2 b hb).1; omega
  have b3 : Below w.heap.size w w3 := ⟨hgrow.os.trans (hal.os.trans (hb4.os.trans hbb.os)), hgrow.tape.trans (hal.tape.trans (hb4.tape.trans hbb.tape)), hgrow.output.trans (hal.output.trans (hb4.output.trans hbb.output)), by have := hbb.size; omega, fun k hk' => (hk k (by have := hbb.size; omega) (hne k (by omega))).trans (hbb.block k hk')⟩
  refine ⟨blk_ne ((hk _ (by omega) (hne _ (by omega))).trans hB0) (by simp; omega), blk_ne ((hk _ (by omega) (hne _ (by omega))).trans hB1) (by simp), ?_, q1.setCell (a := ⟨w.heap.size + 1 + 1, 8, none⟩) (fun b hb => hd b (by simp [hb])) _, q2.setCell (a := ⟨w.heap.size + 1 + 1, 8, none⟩) (fun b hb => hd b (by simp [hb])) _,
    q3.setCell (a := ⟨w.heap.size + 1 + 1, 8, none⟩) hd _, hlt, hS, by rw [size_setCell]; omega, hG3.setCell (by simpa using hS) _, b3.setCell (p := ⟨w.heap.size + 1 + 1, 8, none⟩) (by simp; omega) _⟩
  rw [heap_setCell_at ((hk _ (by omega) (hne _ (by omega))).trans hB2)]
  match pre, hpre with
  | [_, _, _, _, _, _, _, _], _ => rfl

theorem WiI.done {w wr : World} {B : Nat} {ev : Array Value} {pre : List Value} {ty fr : Ty} {g1 g2 f : List Nat} {us : List Tm} {x8 : Value} {k : Int} {nm : ByteArray} {num lb : Int} {k1 k2 : Int} {n1 n2 c1 c2 : Nat} {a1 a2 : Option Addr}
    (h : WiI w B ev pre ty fr (.agg #[.int .i64 k1, .slice a1 n1 c1]) (.agg #[.int .i64 k2, .slice a2 n2 c2]) g1 g2 us x8 f wr) (hnm : nm.size ≤ 9223372036854775807) (hm : us.length ≤ maxLen)
    (hpre : pre = [.int .i64 k, .string nm, .int .i64 num, .int .i64 k1, .slice a1 n1 c1, .int .i64 k2, .slice a2 n2 c2, .int .i64 lb]) :
    ∃ f', (Tm.mk k nm num ty fr lb us).At (put wr (w.heap.size + 1) 0 (pre ++ [x8])) (.agg (pre ++ [x8]).toArray) f' ∧ Fresh w.heap.size (put wr (w.heap.size + 1) 0 (pre ++ [x8])) f' ∧ Below w.heap.size w (put wr (w.heap.size + 1) 0 (pre ++ [x8])) := by
  subst hpre
  obtain ⟨hB0, hB1, hB2, h1, h2, hg, hlt, hS, hBw, hG, hbb⟩ := h
  obtain ⟨fp, hs, hf⟩ := hG.done hm
  have ab : Above (w.heap.size + 1 + 1) wr (put wr (w.heap.size + 1) 0 ([.int .i64 k, .string nm, .int .i64 num, .int .i64 k1, .slice a1 n1 c1, .int .i64 k2, .slice a2 n2 c2, .int .i64 lb] ++ [x8])) := (Above.refl _ _).put (Nat.lt_succ_self _)
  have q1 := h1.above ab (fun b hb => by have := hg.ge b (by simp [hb]); omega)
  have q2 := h2.above ab (fun b hb => by have := hg.ge b (by simp [hb]); omega)
  have q3 := hs.above ab (fun b hb => by have := hf.ge b hb; omega)
  refine ⟨g1 ++ (g2 ++ fp), Tm.at_mk.2 ⟨_, _, _, _, _, g1, g2, fp, rfl, hnm, q1, q2, rfl, q3⟩, ?_, below_put hbb (by omega)⟩
  have F1 := (hg.above ab (by omega)).mono (B' := w.heap.size) (by omega)
  have F2 := (hf.above ab (by omega)).mono (B' := w.heap.size) (by omega)
  rw [← List.append_assoc]
  refine ⟨List.nodup_append.2 ⟨F1.1, F2.1, fun a ha b hb e => ?_⟩, fun b hb => ?_⟩
  · have := hlt a ha
    have := hf.ge b hb
    omega
  · rcases List.mem_append.1 hb with hb | hb
    · exact F1.2 b hb
    · exact F2.2 b hb

theorem WiI.keep {w wr w2 w3 : World} {B : Nat} {ev : Array Value} {pre vs : List Value} {ty fr : Ty} {v1 v2 x8 : Value} {g1 g2 f : List Nat} {us : List Tm} (h : WiI w B ev pre ty fr v1 v2 g1 g2 us x8 f wr)
    (hb : Below (wr.alloc (Obj.cells #[.int .i64 0, .string ByteArray.empty, .int .i64 0, .int .i64 0, .slice none 0 0, .int .i64 0, .slice none 0 0, .int .i64 0, .slice none 0 0] 34)).heap.size (wr.alloc (Obj.cells #[.int .i64 0, .string ByteArray.empty, .int .i64 0, .int .i64 0, .slice none 0 0, .int .i64 0, .slice none 0 0, .int .i64 0, .slice none 0 0] 34)) w2) (hgrow : ((put w2 wr.heap.size 0 vs).alloc (Obj.cells vs.toArray 34)).grownBy w3 x8.ownBlock) : ∀ k, k < B → w3.heap[k]? = wr.heap[k]? := by
  obtain ⟨hB0, hB1, hB2, h1, h2, hg, hlt, hS, hBw, hG, hbb⟩ := h
  intro k hk
  have hb4 : Below wr.heap.size wr (put w2 wr.heap.size 0 vs) := below_put (alloc1 hb) (Nat.le_refl _)
  have hs4 : (put w2 wr.heap.size 0 vs).heap.size = w2.heap.size := size_put
  have hs2 : wr.heap.size + 1 ≤ w2.heap.size := by have := hb.size; simpa using this
  have hal : Below (put w2 wr.heap.size 0 vs).heap.size (put w2 wr.heap.size 0 vs) ((put w2 wr.heap.size 0 vs).alloc (Obj.cells vs.toArray 34)) := (Below.refl _ _).alloc (Nat.le_refl _) _
  rw [hgrow.block k (by have := hal.size; omega) (fun e => by have := (hG.own_ge k e.symm).1; omega), hal.block k (by omega), hb4.block k (by omega)]

end Go.Proofs.YtjpmlmdbldcbjaaDoor

namespace Go.Proofs.YtjpmlmdbldcbjaaDoor
open Go.RowKit

def zTm : Tm := .mk 0 ByteArray.empty 0 (.mk 0 []) (.mk 0 []) 0 []

theorem zTm_at (w : World) : zTm.At w (.agg #[.int .i64 0, .string ByteArray.empty, .int .i64 0, .int .i64 0, .slice none 0 0, .int .i64 0, .slice none 0 0, .int .i64 0, .slice none 0 0]) [] :=
  Tm.at_mk.2 ⟨_, _, _, _, _, [], [], [], rfl, by decide, Ty.at_mk.2 ⟨_, rfl, .inl ⟨rfl, rfl, _, _, rfl⟩⟩, Ty.at_mk.2 ⟨_, rfl, .inl ⟨rfl, rfl, _, _, rfl⟩⟩, rfl, .inl ⟨rfl, rfl, _, _, rfl⟩⟩

def MadeMB (w : World) (t : Tm) (ok : Bool) (e : Ending) (w' : World) : Prop := ∃ v fp, e = .returned (.tuple #[v, .bool ok]) ∧ t.At w' v fp ∧ Fresh w.heap.size w' fp ∧ Below w.heap.size w w'


/-- A slice of the call's own of n types, of which the first j have been set to the unknown one. -/
def AnyI (B : Nat) (s : Value) (n j : Nat) (w : World) : Prop := n = 0 ∨ ∃ b o cap, s = .slice (some ⟨b, o, none⟩) n cap ∧ n ≤ cap ∧ n ≤ maxLen ∧ B ≤ b ∧ b < w.heap.size ∧ (∀ q, w.frozen? ⟨b, q, none⟩ = false) ∧
  ∀ i, i < n → ∃ v0 v1, w.cell? ⟨b, o + i * 2, none⟩ = some v0 ∧ w.cell? ⟨b, o + i * 2 + 1, none⟩ = some v1 ∧ (i < j → v0 = .int .i64 1 ∧ v1 = .slice none 0 0)

theorem AnyI.start {B : Nat} {s : Value} {L : List Ty} {f : List Nat} {w : World} (h : SlAt w L s f) (hf : Fresh B w f) : AnyI B s L.length 0 w := by
  rcases h with ⟨rfl, _, _⟩ | ⟨b, o, cap, f', rfl, hp, hc, hm, hl, rfl⟩
  · exact .inl rfl
  · refine .inr ⟨b, o, cap, rfl, hc, hm, hf.ge b (by simp), (hf.2 b (by simp)).2.1, (hf.2 b (by simp)).2.2, fun i hi => ?_⟩
    obtain ⟨v0, v1, _, c0, c1, _⟩ := Ty.atL_get hl i hi
    exact ⟨v0, v1, c0, c1, fun h => absurd h (by omega)⟩

theorem AnyI.below {B : Nat} {s : Value} {n j : Nat} {w w' : World} (h : AnyI B s n j w) (hb : Below w.heap.size w w') : AnyI B s n j w' := by
  rcases h with h | ⟨b, o, cap, hs, hc, hm, hB, hlt, hz, hx⟩
  · exact .inl h
  · refine .inr ⟨b, o, cap, hs, hc, hm, hB, Nat.lt_of_lt_of_le hlt hb.size, fun q => (hb.frozen (p := ⟨b, q, none⟩) hlt).trans (hz q), fun i hi => ?_⟩
    obtain ⟨v0, v1, c0, c1, h⟩ := hx i hi
    exact ⟨v0, v1, cell_keep c0 hb, cell_keep c1 hb, h⟩

theorem AnyI.done {B : Nat} {s : Value} {n a c : Nat} {p : Option Addr} {w : World} (h : AnyI B s n n w) (hs : s = .slice p n a) (_ : c = 0) : ∃ f, SlAt w (List.replicate n (.mk 1 [])) s f := by
  rcases h with rfl | ⟨b, o, cap, rfl, hc, hm, hB, hlt, hz, hx⟩
  · exact ⟨[], .inl ⟨rfl, rfl, _, _, hs⟩⟩
  · by_cases h0 : n = 0
    · subst h0
      exact ⟨[], .inl ⟨rfl, rfl, _, _, rfl⟩⟩
    have hat : Ty.AtL w (List.replicate n (.mk 1 [])) b o ((List.replicate n (Ty.mk 1 [])).map fun _ => ([] : List Nat)).flatten := idx_atL (by simp) (fun i h h' => by
      have hi : i < n := by simpa using h
      obtain ⟨v0, v1, c0, c1, hq⟩ := hx i hi
      obtain ⟨rfl, rfl⟩ := hq hi
      refine ⟨1, .slice none 0 0, c0, c1, ?_, ?_⟩
      · simp only [List.getElem_replicate, List.getElem_map, kidsT]
        exact .inl ⟨rfl, rfl, none, 0, rfl⟩
      · simp [kidsT])
    exact ⟨_, .inr ⟨b, o, cap, _, by rw [List.length_replicate], by rw [List.length_replicate]; omega, by rw [List.length_replicate]; exact hc, by rw [List.length_replicate]; exact hm, hat, rfl⟩⟩

theorem AnyI.step {B : Nat} {n j b o cap : Nat} {w : World} (h : AnyI B (.slice (some ⟨b, o, none⟩) n cap) n j w) (hj : j < n) : AnyI B (.slice (some ⟨b, o, none⟩) n cap) n (j + 1) ((w.setCell ⟨b, o + j * 2, none⟩ (.int .i64 1)).setCell ⟨b, o + j * 2 + 1, none⟩ (.slice none 0 0)) := by
  rcases h with h | ⟨b', o', cap', hs, hc, hm, hB, hlt, hz, hx⟩
  · omega
  cases hs
  refine .inr ⟨b, o, cap, rfl, hc, hm, hB, by rw [size_setCell, size_setCell]; exact hlt, fun q => by rw [frozen_setCell, frozen_setCell]; exact hz q, fun i hi => ?_⟩
  obtain ⟨v0, v1, c0, c1, hq⟩ := hx i hi
  by_cases hij : i = j
  · subst hij
    exact ⟨.int .i64 1, .slice none 0 0, (cell_setCell_other (by omega) _).trans (cell_setCell_self c0 _), cell_setCell_self ((cell_setCell_other (by omega) _).trans c1) _, fun _ => ⟨rfl, rfl⟩⟩
  · exact ⟨v0, v1, (cell_setCell_other (by omega) _).trans ((cell_setCell_other (by omega) _).trans c0), (cell_setCell_other (by omega) _).trans ((cell_setCell_other (by omega) _).trans c1), fun h => hq (by omega)⟩

end Go.Proofs.YtjpmlmdbldcbjaaDoor

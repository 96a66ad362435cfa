/- The specification's l2With: a term with other types. -/
import Derived.Test.YtffmpjcjmffdeaaDoorVPkB
import Derived.Test.YtffmpjcjmffdeaaDoorVWea
import Derived.Test.YtffmpjcjmffdeaaDoorVPkA
namespace Go.Proofs.YtffmpjcjmffdeaaDoor
open Go.RowKit

theorem GrowM.own_ge {B : Nat} {ds : List Tm} {v : Value} {fp : List Nat} {w : World} (h : GrowM B ds v fp w) : ∀ b, v.ownBlock = some b → B ≤ b ∧ b < w.heap.size := by
  obtain ⟨xs, ho, _⟩ := h
  exact ho.lt

theorem wiL_len (T : Nat → Ty) : ∀ (ts : List Tm) (n : Nat), (wiL T n ts).length = ts.length
  | [], _ => by simp only [wiL, List.length_nil]
  | t :: ts, n => by simp only [wiL, List.length_cons, wiL_len T ts]

theorem wiL_take (T : Nat → Ty) : ∀ (ts : List Tm) (n j : Nat) (h : j < ts.length), (wiL T n ts).take (j + 1) = (wiL T n ts).take j ++ [wiT T (n + (tysL (ts.take j)).length) ts[j]]
  | t :: ts, n, 0, _ => by simp [wiL, tysL]
  | t :: ts, n, j + 1, h => by
    have := wiL_take T ts (n + (tysOf t).length) j (by simpa using h)
    simp only [wiL, List.take_succ_cons, tysL, List.length_append, List.getElem_cons_succ, List.cons_append, this]
    rw [Nat.add_assoc]

/-- The loop over the operands: what stands behind some rounds. -/
def WiI (w : World) (B : Nat) (ev : Array Value) (pre : List Value) (ty fr : Ty) (v1 v2 : Value) (g1 g2 : List Nat) (us : List Tm) (x8 : Value) (f : List Nat) (wr : World) : Prop :=
  wr.heap[w.heap.size]? = some (.cells ev 35 (0, 0)) ∧ wr.heap[w.heap.size + 1]? = some (Obj.cells #[.int .i64 0, .string ByteArray.empty, .int .i64 0, .int .i64 0, .slice none 0 0, .int .i64 0, .slice none 0 0, .int .i64 0, .slice none 0 0] 35) ∧ wr.heap[w.heap.size + 1 + 1]? = some (.cells (pre ++ [x8]).toArray 35 (0, 0)) ∧ ty.At wr v1 g1 ∧ fr.At wr v2 g2 ∧ Fresh (w.heap.size + 1 + 1 + 1) wr (g1 ++ g2) ∧
    (∀ b ∈ g1 ++ g2, b < B) ∧ w.heap.size + 1 + 1 < B ∧ B ≤ wr.heap.size ∧ GrowM B us x8 f wr ∧ Below w.heap.size w wr

theorem WiI.step {w wr w2 w3 : World} {B : Nat} {ev : Array Value} {pre vs xs : List Value} {ty fr : Ty} {v1 v2 x8 : Value} {g1 g2 f f' : List Nat} {us : List Tm} {u : Tm} {g cp n : Nat} (h : WiI w B ev pre ty fr v1 v2 g1 g2 us x8 f wr) (hpre : pre.length = 8)
    (hb : Below (wr.alloc (Obj.cells #[.int .i64 0, .string ByteArray.empty, .int .i64 0, .int .i64 0, .slice none 0 0, .int .i64 0, .slice none 0 0, .int .i64 0, .slice none 0 0] 35)).heap.size (wr.alloc (Obj.cells #[.int .i64 0, .string ByteArray.empty, .int .i64 0, .int .i64 0, .slice none 0 0, .int .i64 0, .slice none 0 0, .int .i64 0, .slice none 0 0] 35)) w2) (hat : u.At w2 (.agg vs.toArray) f') (hf : Fresh (wr.alloc (Obj.cells #[.int .i64 0, .string ByteArray.empty, .int .i64 0, .int .i64 0, .slice none 0 0, .int .i64 0, .slice none 0 0, .int .i64 0, .slice none 0 0] 35)).heap.size w2 f')
    (ha1 : AtXM (put w2 wr.heap.size 0 vs) us xs f) (hf1 : Fresh B (put w2 wr.heap.size 0 vs) f) (hn1 : ∀ b, x8.ownBlock = some b → b ∉ f)
    (hgrow : ((put w2 wr.heap.size 0 vs).alloc (Obj.cells vs.toArray 35)).grownBy w3 x8.ownBlock) (hown3 : w3.ownsRow B 35 9 (.slice (some ⟨g, 0, none⟩) n cp) n (xs ++ vs)) (hn : n = us.length + 1) (hat3 : x8.ownBlock = some g ∨ g = ((put w2 wr.heap.size 0 vs).alloc (Obj.cells vs.toArray 35)).heap.size) :
    WiI w B ev pre ty fr v1 v2 g1 g2 (us ++ [u]) (.slice (some ⟨g, 0, none⟩) n cp) (f ++ f') (w3.setCell ⟨w.heap.size + 1 + 1, 8, none⟩ (.slice (some ⟨g, 0, none⟩) n cp)) := by
  obtain ⟨hB0, hB1, hB2, h1, h2, hg, hlt, hS, hBw, hG, hbb⟩ := h
  have hx8 := hG.own_ge
  have hGb := hG.block
  have hb4 : Below wr.heap.size wr (put w2 wr.heap.size 0 vs) := below_put (alloc1 hb) (Nat.le_refl _)
  have hs4 : (put w2 wr.heap.size 0 vs).heap.size = w2.heap.size := size_put
  have hs2 : wr.heap.size + 1 ≤ w2.heap.size := by have := hb.size; simpa using this
  have hal : Below (put w2 wr.heap.size 0 vs).heap.size (put w2 wr.heap.size 0 vs) ((put w2 wr.heap.size 0 vs).alloc (Obj.cells vs.toArray 35)) := (Below.refl _ _).alloc (Nat.le_refl _) _
  have h9 : vs.length = 9 := by simpa using Tm.size9 hat
  have hk : ∀ k, k < wr.heap.size → some k ≠ x8.ownBlock → w3.heap[k]? = wr.heap[k]? := fun k hk hn => by
    rw [hgrow.block k (by have := hal.size; omega) hn, hal.block k (by omega), hb4.block k hk]
  have hne : ∀ k, k < B → some k ≠ x8.ownBlock := fun k hk e => by have := (hx8 k e.symm).1; omega
  have hs3 : w2.heap.size ≤ w3.heap.size := by have := hgrow.size; have := hal.size; omega
  have hgB : B ≤ g := by
    rcases hat3 with e | e
    · exact (hx8 g e).1
    · have := hal.size
      omega
  have ab : Above (wr.heap.size + 1) w2 (put w2 wr.heap.size 0 vs) := (Above.refl _ _).put (Nat.lt_succ_self _)
  have hal0 : (wr.alloc (Obj.cells #[.int .i64 0, .string ByteArray.empty, .int .i64 0, .int .i64 0, .slice none 0 0, .int .i64 0, .slice none 0 0, .int .i64 0, .slice none 0 0] 35)).heap.size = wr.heap.size + 1 := by simp
  rw [hal0] at hf
  have hat4 := hat.above ab hf.ge
  have hf4 := hf.above ab (Nat.le_refl _)
  have hG3 : GrowM B (us ++ [u]) (.slice (some ⟨g, 0, none⟩) n cp) (f ++ f') w3 := GrowM.step (w := wr) ha1 hf1 hn1 hGb.1 hGb.2 hBw h9 hat4 (hf4.mono (by omega)) hal hgrow hown3 hn hat3
  have q : ∀ (t : Ty) (v : Value) (gg : List Nat), t.At wr v gg → (∀ b ∈ gg, b < B) → t.At w3 v gg := fun t v gg ht hl => ht.congr fun b hb o => World.cell?_of_block (w := wr) (a := ⟨b, o, none⟩) (hk b (ht.lt b hb) (hne b (hl b hb)))
  have q1 := q _ _ _ h1 (fun b hb => hlt b (by simp [hb]))
  have q2 := q _ _ _ h2 (fun b hb => hlt b (by simp [hb]))
  have q3 : Fresh (w.heap.size + 1 + 1 + 1) w3 (g1 ++ g2) := ⟨hg.1, fun b hb => ⟨(hg.2 b hb).1, by have := (hg.2 b hb).2.1; omega, fun o => (World.frozen?_of_block (w := wr) (a := ⟨b, o, none⟩) (hk b (hg.2 b hb).2.1 (hne b (hlt b hb)))).trans ((hg.2 b hb).2.2 o)⟩⟩
  have hd : ∀ b ∈ g1 ++ g2, b ≠ w.heap.size + 1 + 1 := fun b hb => by have := (hg.2 b hb).1; omega
  have b3 : Below w.heap.size w w3 := ⟨hgrow.os.trans (hal.os.trans (hb4.os.trans hbb.os)), hgrow.tape.trans (hal.tape.trans (hb4.tape.trans hbb.tape)), hgrow.output.trans (hal.output.trans (hb4.output.trans hbb.output)), by have := hbb.size; omega, fun k hk' => (hk k (by have := hbb.size; omega) (hne k (by omega))).trans (hbb.block k hk')⟩
  refine ⟨blk_ne ((hk _ (by omega) (hne _ (by omega))).trans hB0) (by simp; omega), blk_ne ((hk _ (by omega) (hne _ (by omega))).trans hB1) (by simp), ?_, q1.setCell (a := ⟨w.heap.size + 1 + 1, 8, none⟩) (fun b hb => hd b (by simp [hb])) _, q2.setCell (a := ⟨w.heap.size + 1 + 1, 8, none⟩) (fun b hb => hd b (by simp [hb])) _,
    q3.setCell (a := ⟨w.heap.size + 1 + 1, 8, none⟩) hd _, hlt, hS, by rw [size_setCell]; omega, hG3.setCell (by simpa using hS) _, b3.setCell (p := ⟨w.heap.size + 1 + 1, 8, none⟩) (by simp; omega) _⟩
  rw [heap_setCell_at ((hk _ (by omega) (hne _ (by omega))).trans hB2)]
  match pre, hpre with
  | [_, _, _, _, _, _, _, _], _ => rfl

theorem WiI.done {w wr : World} {B : Nat} {ev : Array Value} {pre : List Value} {ty fr : Ty} {g1 g2 f : List Nat} {us : List Tm} {x8 : Value} {k : Int} {nm : ByteArray} {num lb : Int} {k1 k2 : Int} {n1 n2 c1 c2 : Nat} {a1 a2 : Option Addr}
    (h : WiI w B ev pre ty fr (.agg #[.int .i64 k1, .slice a1 n1 c1]) (.agg #[.int .i64 k2, .slice a2 n2 c2]) g1 g2 us x8 f wr) (hnm : nm.size ≤ 9223372036854775807) (hm : us.length ≤ maxLen)
    (hpre : pre = [.int .i64 k, .string nm, .int .i64 num, .int .i64 k1, .slice a1 n1 c1, .int .i64 k2, .slice a2 n2 c2, .int .i64 lb]) :
    ∃ f', (Tm.mk k nm num ty fr lb us).At (put wr (w.heap.size + 1) 0 (pre ++ [x8])) (.agg (pre ++ [x8]).toArray) f' ∧ Fresh w.heap.size (put wr (w.heap.size + 1) 0 (pre ++ [x8])) f' ∧ Below w.heap.size w (put wr (w.heap.size + 1) 0 (pre ++ [x8])) := by
  subst hpre
  obtain ⟨hB0, hB1, hB2, h1, h2, hg, hlt, hS, hBw, hG, hbb⟩ := h
  obtain ⟨fp, hs, hf⟩ := hG.done hm
  have ab : Above (w.heap.size + 1 + 1) wr (put wr (w.heap.size + 1) 0 ([.int .i64 k, .string nm, .int .i64 num, .int .i64 k1, .slice a1 n1 c1, .int .i64 k2, .slice a2 n2 c2, .int .i64 lb] ++ [x8])) := (Above.refl _ _).put (Nat.lt_succ_self _)
  have q1 := h1.above ab (fun b hb => by have := hg.ge b (by simp [hb]); omega)
  have q2 := h2.above ab (fun b hb => by have := hg.ge b (by simp [hb]); omega)
  have q3 := hs.above ab (fun b hb => by have := hf.ge b hb; omega)
  refine ⟨g1 ++ (g2 ++ fp), Tm.at_mk.2 ⟨_, _, _, _, _, g1, g2, fp, rfl, hnm, q1, q2, rfl, q3⟩, ?_, below_put hbb (by omega)⟩
  have F1 := (hg.above ab (by omega)).mono (B' := w.heap.size) (by omega)
  have F2 := (hf.above ab (by omega)).mono (B' := w.heap.size) (by omega)
  rw [← List.append_assoc]
  refine ⟨List.nodup_append.2 ⟨F1.1, F2.1, fun a ha b hb e => ?_⟩, fun b hb => ?_⟩
  · have := hlt a ha
    have := hf.ge b hb
    omega
  · rcases List.mem_append.1 hb with hb | hb
    · exact F1.2 b hb
    · exact F2.2 b hb

theorem WiI.keep {w wr w2 w3 : World} {B : Nat} {ev : Array Value} {pre vs : List Value} {ty fr : Ty} {v1 v2 x8 : Value} {g1 g2 f : List Nat} {us : List Tm} (h : WiI w B ev pre ty fr v1 v2 g1 g2 us x8 f wr)
    (hb : Below (wr.alloc (Obj.cells #[.int .i64 0, .string ByteArray.empty, .int .i64 0, .int .i64 0, .slice none 0 0, .int .i64 0, .slice none 0 0, .int .i64 0, .slice none 0 0] 35)).heap.size (wr.alloc (Obj.cells #[.int .i64 0, .string ByteArray.empty, .int .i64 0, .int .i64 0, .slice none 0 0, .int .i64 0, .slice none 0 0, .int .i64 0, .slice none 0 0] 35)) w2) (hgrow : ((put w2 wr.heap.size 0 vs).alloc (Obj.cells vs.toArray 35)).grownBy w3 x8.ownBlock) : ∀ k, k < B → w3.heap[k]? = wr.heap[k]? := by
  obtain ⟨hB0, hB1, hB2, h1, h2, hg, hlt, hS, hBw, hG, hbb⟩ := h
  intro k hk
  have hb4 : Below wr.heap.size wr (put w2 wr.heap.size 0 vs) := below_put (alloc1 hb) (Nat.le_refl _)
  have hs4 : (put w2 wr.heap.size 0 vs).heap.size = w2.heap.size := size_put
  have hs2 : wr.heap.size + 1 ≤ w2.heap.size := by have := hb.size; simpa using this
  have hal : Below (put w2 wr.heap.size 0 vs).heap.size (put w2 wr.heap.size 0 vs) ((put w2 wr.heap.size 0 vs).alloc (Obj.cells vs.toArray 35)) := (Below.refl _ _).alloc (Nat.le_refl _) _
  rw [hgrow.block k (by have := hal.size; omega) (fun e => by have := (hG.own_ge k e.symm).1; omega), hal.block k (by omega), hb4.block k (by omega)]

/-- The types of a list, from an index on. -/
def lstT (L : List Ty) (n : Nat) : Ty := (L[n]?).getD (.mk 0 [])

def WsOut (w : World) (n : Nat) (t : Tm) (e : Ending) (w' : World) : Prop := ∃ v f, e = .returned (.tuple #[v, .int .i64 n]) ∧ t.At w' v f ∧ Fresh w.heap.size w' f ∧ Below w.heap.size w w'

def WsC (L : List Ty) (t : Tm) : Prop := ∀ (n : Nat) (v : Value) (fp : List Nat) (s : Value) (lfp : List Nat) (w : World), t.At w v fp → SlAt w L s lfp → n + (tysOf t).length ≤ L.length → t.sz ≤ 1048576 →
  Calls Tryd.prog 125 #[v, s, .int .i64 n] w (WsOut w (n + (tysOf t).length) (wiT (lstT L) n t))

set_option linter.unusedSimpArgs false in
set_option maxRecDepth 100000 in
set_option maxHeartbeats 1500000 in
theorem l2With_no (L : List Ty) (hL : ∀ u ∈ L, u.cnt ≤ 1048576) (k : Int) (h5 : k ≠ 5) (h13 : k ≠ 13) (nm : ByteArray) (num : Int) (ty fr : Ty) (lb : Int) (ts : List Tm) (ih : ∀ t ∈ ts, WsC L t) : WsC L (.mk k nm num ty fr lb ts) := by
  intro n v fp s lfp w hat hls hN hsz
  have HIH := hid ih
  have HLC := hid hL
  clear ih hL
  have hat0 := hat
  obtain ⟨k1, n1, a1, c1, k2, n2, a2, c2, a3, c3, f1, f2, f3, rfl, hnm, ht1, ht2, rfl, hs⟩ := hat.parts
  obtain ⟨a, cap, hss, hc, hm, hget⟩ := hs.open
  cases hss
  obtain ⟨la, lcap, rfl, hlc, hlm, hlget⟩ := hls.openA
  have HLS := hid hls
  have HLG := hid hlget
  have HG := hid hget
  have hcnt : ty.cnt ≤ 1048576 ∧ fr.cnt ≤ 1048576 ∧ ts.length + szML ts ≤ 1048576 := by simp only [Tm.sz] at hsz; omega
  have HSZ := hid hcnt
  have hto : (tysOf (.mk k nm num ty fr lb ts)).length = 0 + (tysL ts).length := by
    simp only [tysOf, List.length_append]
    rw [if_neg (by omega), List.length_nil]
  have hNN : n + 0 + (tysL ts).length ≤ L.length := by
    rw [hto] at hN
    omega
  have HTL := hid (show n + (tysOf (.mk k nm num ty fr lb ts)).length = n + 0 + (tysL ts).length by
    rw [hto]
    omega)
  have HTW := hid (show wiT (lstT L) n (.mk k nm num ty fr lb ts) = .mk k nm num (ty) fr lb (wiL (lstT L) (n + 0) ts) by
    simp only [wiT]
    simp [hasTy, h5, h13])
  rw [HTL.out, HTW.out]
  clear HTL HTW hto hN hat hat0 hs hget hls hlget hsz hcnt
  have hb0 : Below w.heap.size w (((w.alloc (Obj.cells #[.int .i64 k, .string nm, .int .i64 num, .int .i64 k1, .slice a1 n1 c1, .int .i64 k2, .slice a2 n2 c2, .int .i64 lb, .slice a3 ts.length c3] 35)).alloc (Obj.cells #[.int .i64 0, .string ByteArray.empty, .int .i64 0, .int .i64 0, .slice none 0 0, .int .i64 0, .slice none 0 0, .int .i64 0, .slice none 0 0] 35)).alloc (Obj.cells #[.int .i64 k, .string nm, .int .i64 num, .int .i64 k1, .slice a1 n1 c1, .int .i64 k2, .slice a2 n2 c2, .int .i64 lb, .slice a3 ts.length c3] 35)) := (((Below.refl _ _).alloc (Nat.le_refl _) _).alloc (by simp) _).alloc (by simp; omega) _
  have hs0 : ((((w.alloc (Obj.cells #[.int .i64 k, .string nm, .int .i64 num, .int .i64 k1, .slice a1 n1 c1, .int .i64 k2, .slice a2 n2 c2, .int .i64 lb, .slice a3 ts.length c3] 35)).alloc (Obj.cells #[.int .i64 0, .string ByteArray.empty, .int .i64 0, .int .i64 0, .slice none 0 0, .int .i64 0, .slice none 0 0, .int .i64 0, .slice none 0 0] 35)).alloc (Obj.cells #[.int .i64 k, .string nm, .int .i64 num, .int .i64 k1, .slice a1 n1 c1, .int .i64 k2, .slice a2 n2 c2, .int .i64 lb, .slice a3 ts.length c3] 35))).heap.size = w.heap.size + 1 + 1 + 1 := by simp
  have HZ0 := hid hs0
  have HNM := hid hnm
  have HT2 := hid ht2
  have HB0 := hid hb0
  clear hnm hs0
  have h5' : (k == 5) = false := by simpa using h5
  have h13' : (k == 13) = false := by simpa using h13
  go_enter Tryd.func125, Tryd.ntmps125
  go_wp2_with fail
  refine (l1Copy_any ty _ _ _ (ht1.below hb0) HSZ.out.1).mono ?_
  rintro e w1 ⟨v1, g1, rfl, hv1, hg1, hb1⟩
  obtain ⟨j1, m1, p1, d1, rfl⟩ := hv1.agg
  obtain ⟨hE, hZ, hO⟩ := three_out hb1
  obtain ⟨x0, x1, x2, x3, x4, x5, x6, x7, x8⟩ := cells9 hE
  obtain ⟨y0, y1, y2, y3, y4, y5, y6, y7, y8⟩ := cells9 hO
  have yz := fun o => frozen_of_block (o := o) hO
  have hM : w.heap.size + 1 + 1 < w1.heap.size := lt_of_block hO
  rw [HZ0.out] at hg1
  have b1 := below_trans hb0 hb1
  have HV1 := hid (And.intro hv1 hg1)
  have HE := hid (And.intro hE (And.intro hZ hO))
  clear hv1 hg1 hb1 hE hZ hO hb0 ht1
  go_wp2_with fail
  have b2 := (b1.setCell (p := ⟨w.heap.size + 1 + 1, 3, none⟩) (by simp; omega) (.int .i64 j1)).setCell (p := ⟨w.heap.size + 1 + 1, 4, none⟩) (by simp; omega) (.slice p1 m1 d1)
  have ab1 := ((Above.refl (w.heap.size + 1 + 1 + 1) w1).setCell (p := ⟨w.heap.size + 1 + 1, 3, none⟩) (Nat.lt_succ_self _) (.int .i64 j1)).setCell (p := ⟨w.heap.size + 1 + 1, 4, none⟩) (Nat.lt_succ_self _) (.slice p1 m1 d1)
  refine (l1Copy_any fr _ _ _ (HT2.out.below b2) HSZ.out.2.1).mono ?_
  rintro e w2 ⟨v2, g2, rfl, hv2, hg2, hb2⟩
  obtain ⟨j2, m2, p2, d2, rfl⟩ := hv2.agg
  have hv1' := (HV1.out.1.above ab1 HV1.out.2.ge).below hb2
  have F2 := Fresh.append (HV1.out.2.above ab1 (Nat.le_refl _)) hg2 (Nat.le_refl _) (by rw [size_setCell, size_setCell]; omega) hb2
  have hO2 : w2.heap[w.heap.size + 1 + 1]? = some (.cells #[.int .i64 k, .string nm, .int .i64 num, .int .i64 j1, .slice p1 m1 d1, .int .i64 k2, .slice a2 n2 c2, .int .i64 lb, .slice a3 ts.length c3] 35 (0, 0)) :=
    blk (heap_setCell_at (heap_setCell_at HE.out.2.2 _) _) hb2
  have hE2 := blk (blk_ne (a := ⟨w.heap.size + 1 + 1, 4, none⟩) (u := .slice p1 m1 d1) (blk_ne (a := ⟨w.heap.size + 1 + 1, 3, none⟩) (u := .int .i64 j1) HE.out.1 (by simp; omega)) (by simp; omega)) hb2
  have hZ2 := blk (blk_ne (a := ⟨w.heap.size + 1 + 1, 4, none⟩) (u := .slice p1 m1 d1) (blk_ne (a := ⟨w.heap.size + 1 + 1, 3, none⟩) (u := .int .i64 j1) HE.out.2.1 (by simp)) (by simp)) hb2
  have b3 := below_trans b2 hb2
  clear x0 x1 x2 x3 x4 x5 x6 x7 x8 y0 y1 y2 y3 y4 y5 y6 y7 y8 yz hM HE HV1 hg2 b1 b2 hb2 ab1
  obtain ⟨x0, x1, x2, x3, x4, x5, x6, x7, x8⟩ := cells9 hE2
  obtain ⟨y0, y1, y2, y3, y4, y5, y6, y7, y8⟩ := cells9 hO2
  have yz := fun o => frozen_of_block (o := o) hO2
  have hM2 : w.heap.size + 1 + 1 < w2.heap.size := lt_of_block hO2
  have hI0 : WiI w w2.heap.size #[.int .i64 k, .string nm, .int .i64 num, .int .i64 k1, .slice a1 n1 c1, .int .i64 k2, .slice a2 n2 c2, .int .i64 lb, .slice a3 ts.length c3] [.int .i64 k, .string nm, .int .i64 num, .int .i64 j1, .slice p1 m1 d1, .int .i64 j2, .slice p2 m2 d2, .int .i64 lb] ty fr (.agg #[.int .i64 j1, .slice p1 m1 d1]) (.agg #[.int .i64 j2, .slice p2 m2 d2]) g1 g2 [] (.slice none 0 0) [] (((w2.setCell ⟨w.heap.size + 1 + 1, 5, none⟩ (.int .i64 j2)).setCell ⟨w.heap.size + 1 + 1, 6, none⟩ (.slice p2 m2 d2)).setCell ⟨w.heap.size + 1 + 1, 8, none⟩ (.slice none 0 0)) := by
    have ab4 := (((Above.refl (w.heap.size + 1 + 1 + 1) w2).setCell (p := ⟨w.heap.size + 1 + 1, 5, none⟩) (Nat.lt_succ_self _) (.int .i64 j2)).setCell (p := ⟨w.heap.size + 1 + 1, 6, none⟩) (Nat.lt_succ_self _) (.slice p2 m2 d2)).setCell (p := ⟨w.heap.size + 1 + 1, 8, none⟩) (Nat.lt_succ_self _) (.slice none 0 0)
    exact ⟨blk_ne (blk_ne (blk_ne hE2 (by simp; omega)) (by simp; omega)) (by simp; omega), blk_ne (blk_ne (blk_ne hZ2 (by simp)) (by simp)) (by simp), heap_setCell_at (heap_setCell_at (heap_setCell_at hO2 _) _) _, hv1'.above ab4 (fun b hb => F2.ge b (by simp [hb])), hv2.above ab4 (fun b hb => F2.ge b (by simp [hb])), F2.above ab4 (Nat.le_refl _),
      fun b hb => (F2.2 b hb).2.1, hM2, by rw [size_setCell, size_setCell, size_setCell]; omega, GrowM.zero _ _, ((b3.setCell (p := ⟨w.heap.size + 1 + 1, 5, none⟩) (by simp; omega) _).setCell (p := ⟨w.heap.size + 1 + 1, 6, none⟩) (by simp; omega) _).setCell (p := ⟨w.heap.size + 1 + 1, 8, none⟩) (by simp; omega) _⟩
  have HI0 := hid hI0
  clear hI0 hv1' hv2 F2 hO2 hE2 hZ2 b3
  go_wp2_with fail
  go_loopw [2, 9] (fun pn i wr => ∃ (j : Nat) (x : Value) (f : List Nat), j ≤ ts.length ∧ i = .int .i64 j ∧ pn = .int .i64 ((n + (tysL (ts.take j)).length : Nat) : Int) ∧ WiI w w2.heap.size #[.int .i64 k, .string nm, .int .i64 num, .int .i64 k1, .slice a1 n1 c1, .int .i64 k2, .slice a2 n2 c2, .int .i64 lb, .slice a3 ts.length c3] [.int .i64 k, .string nm, .int .i64 num, .int .i64 j1, .slice p1 m1 d1, .int .i64 j2, .slice p2 m2 d2, .int .i64 lb] ty fr (.agg #[.int .i64 j1, .slice p1 m1 d1]) (.agg #[.int .i64 j2, .slice p2 m2 d2]) g1 g2 ((wiL (lstT L) n ts).take j) x f wr) (fun _ i _ => ts.length - (intOf i).toNat)
  case atStart => exact ⟨0, _, [], Nat.zero_le _, rfl, by simp [tysL], HI0.out⟩
  case round =>
    obtain ⟨j, x, f, hj, rfl, rfl, hI⟩ := hrel
    have hI0 := hI
    obtain ⟨hE, hZ, hO, -, -, -, -, hSB, hBw, hG, hbw⟩ := hI0
    have hlen : ((wiL (lstT L) n ts).take j).length = j := by rw [List.length_take, wiL_len]; omega
    obtain ⟨av, capv, hshape⟩ := hG.shape
    rw [hlen] at hshape
    subst hshape
    have hO' : wr.heap[w.heap.size + 1 + 1]? = some (.cells #[.int .i64 k, .string nm, .int .i64 num, .int .i64 j1, .slice p1 m1 d1, .int .i64 j2, .slice p2 m2 d2, .int .i64 lb, .slice av j capv] 35 (0, 0)) := hO
    clear hO
    obtain ⟨x0, x1, x2, x3, x4, x5, x6, x7, x8⟩ := cells9 hE
    obtain ⟨y0, y1, y2, y3, y4, y5, y6, y7, y8⟩ := cells9 hO'
    have yz := fun o => frozen_of_block (o := o) hO'
    have HI := hid hI
    have HLEN := hid hlen
    generalize hp : n + (tysL (ts.take j)).length = p at *
    have HPJ := hid hp
    clear hI hlen hp
    have hSw : w.heap.size + 1 + 1 < wr.heap.size := by omega
    have hSw0 : w.heap.size < wr.heap.size := by omega
    by_cases hlk : j < ts.length
    · obtain ⟨b, o, q0, q1, q2, q3, q4, q5, q6, q7, q8, q9, q10, q11, q12, q13, q14, fk, rfl, hblt, c0, c1', c2', c3', c4, c5, c6, c7, c8, hatk, hfk⟩ := HG.out j hlk
      have hblw : b < wr.heap.size := by omega
      have d0 := (hbw.cell (p := ⟨b, o + j * 9, none⟩) hblt).trans c0
      have e1 := (hbw.cell (p := ⟨b, o + j * 9 + 1, none⟩) hblt).trans c1'
      have e2 := (hbw.cell (p := ⟨b, o + j * 9 + 2, none⟩) hblt).trans c2'
      have d3' := (hbw.cell (p := ⟨b, o + j * 9 + 3, none⟩) hblt).trans c3'
      have d4 := (hbw.cell (p := ⟨b, o + j * 9 + 4, none⟩) hblt).trans c4
      have d5 := (hbw.cell (p := ⟨b, o + j * 9 + 5, none⟩) hblt).trans c5
      have d6 := (hbw.cell (p := ⟨b, o + j * 9 + 6, none⟩) hblt).trans c6
      have d7 := (hbw.cell (p := ⟨b, o + j * 9 + 7, none⟩) hblt).trans c7
      have d8 := (hbw.cell (p := ⟨b, o + j * 9 + 8, none⟩) hblt).trans c8
      have hal : Below wr.heap.size wr (wr.alloc (Obj.cells #[.int .i64 0, .string ByteArray.empty, .int .i64 0, .int .i64 0, .slice none 0 0, .int .i64 0, .slice none 0 0, .int .i64 0, .slice none 0 0] 35)) := (Below.refl _ _).alloc (Nat.le_refl _) _
      have HATK := hid ((hatk.below hbw).below hal)
      have HLK := hid ((HLS.out.below hbw).below hal)
      have htk := congrArg List.length (tysL_take hlk)
      have htl := tysL_take_len ts (j + 1)
      rw [List.length_append] at htk
      have hbn : p + (tysOf ts[j]).length ≤ L.length := by have := HPJ.out; omega
      have hszk : ts[j].sz ≤ 1048576 := by have := HSZ.out.2.2; have := sz_mem (List.getElem_mem hlk); omega
      have HTK := hid htk
      have HTI := hid (wiL_take (lstT L) ts n j hlk)
      rw [HPJ.out] at HTI
      have HCK := HIH.out _ (List.getElem_mem hlk) p _ _ _ _ _ HATK.out HLK.out hbn hszk
      have HHO := hid hO'
      have HHZ := hid hZ
      have HHG := hid hG
      clear c0 c1' c2' c3' c4 c5 c6 c7 c8 hatk hfk htk htl hE hZ hO' hG hal hbw HATK HLK
      generalize hq : p + (tysOf ts[j]).length = pq at *
      have HQ := hid hq
      clear hq
      have HCK := hid HCK
      go_wp2_with fail
      refine HCK.out.mono ?_
      rintro e w4 ⟨v', f', rfl, hu, hfu, hbu⟩
      obtain ⟨r0, r1, r2, r3, r4, r5, r6, r7, r8, r9, r10, r11, r12, r13, r14, rfl⟩ := hu.agg
      have hKB : w4.heap[wr.heap.size]? = some (Obj.cells #[.int .i64 0, .string ByteArray.empty, .int .i64 0, .int .i64 0, .slice none 0 0, .int .i64 0, .slice none 0 0, .int .i64 0, .slice none 0 0] 35) := (hbu.block wr.heap.size (by simp)).trans (alloc_new _ _)
      have hOB := ((alloc1 hbu).block (w.heap.size + 1 + 1) (by omega)).trans HHO.out
      clear x0 x1 x2 x3 x4 x5 x6 x7 x8 y0 y1 y2 y3 y4 y5 y6 y7 y8 yz d0 e1 e2 d3' d4 d5 d6 d7 d8
      obtain ⟨z0, z1, z2, z3, z4, z5, z6, z7, z8⟩ := cells9 hKB
      obtain ⟨y0, y1, y2, y3, y4, y5, y6, y7, y8⟩ := cells9 hOB
      have zz := fun o => frozen_of_block (o := o) hKB
      have hM4 : wr.heap.size < w4.heap.size := lt_of_block hKB
      have hG4 := HHG.out.below (w' := put w4 wr.heap.size 0 [.int .i64 r0, .string r1, .int .i64 r2, .int .i64 r3, .slice r5 r4 r6, .int .i64 r7, .slice r9 r8 r10, .int .i64 r11, .slice r13 r12 r14]) (below_put (alloc1 hbu) (Nat.le_refl _))
      obtain ⟨xs, ho1, ha1, hf1, hn1⟩ := hG4
      rw [HLEN.out] at ho1
      have HU4 := hid (And.intro hu (And.intro hfu hbu))
      have HA1 := hid (And.intro ha1 (And.intro hf1 hn1))
      have hs4 : (put w4 wr.heap.size 0 [.int .i64 r0, .string r1, .int .i64 r2, .int .i64 r3, .slice r5 r4 r6, .int .i64 r7, .slice r9 r8 r10, .int .i64 r11, .slice r13 r12 r14]).heap.size = w4.heap.size := size_put
      have HS4 := hid hs4
      have hBw4 : w2.heap.size ≤ w4.heap.size := by omega
      have h63 : j + 1 ≤ maxLen := by unfold maxLen; have := HSZ.out.2.2; omega
      have hby : (j + 1) * 128 ≤ 140737488355328 := by have := HSZ.out.2.2; omega
      obtain ⟨i0, hi0, hz0, hz1, hz2⟩ := info_parts (P := Tryd.prog) (e := 35) Tryd.infoTm
      have HKB := hid (And.intro hKB hOB)
      clear hu hfu hbu ha1 hf1 hn1 hs4 hKB hOB
      go_upto_region 13 with (fail)
      generalize hW5 : (((((((((w4.setCell ⟨wr.heap.size, 0, none⟩ (.int .i64 r0)).setCell ⟨wr.heap.size, 1, none⟩ (.string r1)).setCell ⟨wr.heap.size, 2, none⟩ (.int .i64 r2)).setCell ⟨wr.heap.size, 3, none⟩ (.int .i64 r3)).setCell ⟨wr.heap.size, 4, none⟩ (.slice r5 r4 r6)).setCell ⟨wr.heap.size, 5, none⟩ (.int .i64 r7)).setCell ⟨wr.heap.size, 6, none⟩ (.slice r9 r8 r10)).setCell ⟨wr.heap.size, 7, none⟩ (.int .i64 r11)).setCell ⟨wr.heap.size, 8, none⟩ (.slice r13 r12 r14)) = W5
      have e5 : W5 = put w4 wr.heap.size 0 [.int .i64 r0, .string r1, .int .i64 r2, .int .i64 r3, .slice r5 r4 r6, .int .i64 r7, .slice r9 r8 r10, .int .i64 r11, .slice r13 r12 r14] := by rw [← hW5]; simp only [put, Nat.zero_add, Nat.reduceAdd]
      have hKB5 : W5.heap[wr.heap.size]? = some (.cells (Array.mk [.int .i64 r0, .string r1, .int .i64 r2, .int .i64 r3, .slice r5 r4 r6, .int .i64 r7, .slice r9 r8 r10, .int .i64 r11, .slice r13 r12 r14]) 35 (0, 0)) := by
        rw [e5, heap_put HKB.out.1]
        simp only [putA, List.setIfInBounds_toArray, List.set]
      have hOB5 := (show W5.heap[w.heap.size + 1 + 1]? = w4.heap[w.heap.size + 1 + 1]? by rw [e5, heap_put_ne (by omega)]).trans HKB.out.2
      have hs5 : w4.heap.size = W5.heap.size := by rw [e5, HS4.out]
      rw [← e5] at ho1
      have hBw5 : w2.heap.size ≤ W5.heap.size := by omega
      have hM5 : w.heap.size + 1 + 1 < W5.heap.size := by omega
      have hM6 : wr.heap.size < W5.heap.size := by omega
      have E5 := hid e5
      clear hW5 e5 hs5 z0 z1 z2 z3 z4 z5 z6 z7 z8 zz y0 y1 y2 y3 y4 y5 y6 y7 y8 hM4 hBw4
      obtain ⟨z0, z1, z2, z3, z4, z5, z6, z7, z8⟩ := cells9 hKB5
      obtain ⟨y0, y1, y2, y3, y4, y5, y6, y7, y8⟩ := cells9 hOB5
      clear hKB5
      have t1 : (W5.alloc (Obj.cells #[.int .i64 r0, .string r1, .int .i64 r2, .int .i64 r3, .slice r5 r4 r6, .int .i64 r7, .slice r9 r8 r10, .int .i64 r11, .slice r13 r12 r14] 35)).ownsRow w2.heap.size 35 9 (.slice av j capv) j xs := ho1.alloc _
      have t2 : ∀ jj u, ([.int .i64 r0, .string r1, .int .i64 r2, .int .i64 r3, .slice r5 r4 r6, .int .i64 r7, .slice r9 r8 r10, .int .i64 r11, .slice r13 r12 r14] : List Value)[jj]? = some u → (W5.alloc (Obj.cells #[.int .i64 r0, .string r1, .int .i64 r2, .int .i64 r3, .slice r5 r4 r6, .int .i64 r7, .slice r9 r8 r10, .int .i64 r11, .slice r13 r12 r14] 35)).cell? ((⟨W5.heap.size, 0, none⟩ : Addr).add jj) = some u := (World.news_of_block (cs := #[.int .i64 r0, .string r1, .int .i64 r2, .int .i64 r3, .slice r5 r4 r6, .int .i64 r7, .slice r9 r8 r10, .int .i64 r11, .slice r13 r12 r14]) (t := 35) (fr := (0, 0)) (heap_alloc_new W5 _))
      have t3 : ∀ u ∈ ([.int .i64 r0, .string r1, .int .i64 r2, .int .i64 r3, .slice r5 r4 r6, .int .i64 r7, .slice r9 r8 r10, .int .i64 r11, .slice r13 r12 r14] : List Value), u.oneCell' = true := by simp [Value.oneCell']
      have t4 : w2.heap.size ≤ (W5.alloc (Obj.cells #[.int .i64 r0, .string r1, .int .i64 r2, .int .i64 r3, .slice r5 r4 r6, .int .i64 r7, .slice r9 r8 r10, .int .i64 r11, .slice r13 r12 r14] 35)).heap.size := by simp; omega
      have t5 : (W5.alloc (Obj.cells #[.int .i64 r0, .string r1, .int .i64 r2, .int .i64 r3, .slice r5 r4 r6, .int .i64 r7, .slice r9 r8 r10, .int .i64 r11, .slice r13 r12 r14] 35)).heap.size = W5.heap.size + 1 := by simp
      have HT := hid (And.intro t1 (And.intro t2 (And.intro t3 (And.intro t4 t5))))
      clear t1 t2 t3 t4 t5 ho1
      go_wp2_with (refine wpList_append_lies _ rfl (.tmp 57) (.tmp 59) 33 rfl w2.heap.size 35 i0 _ 9 128 Tryd.underElemsM hi0 hz0 hz1 hz2 rfl (by omega) (.slice av j capv) j xs rfl HT.out.1 ⟨W5.heap.size, 0, none⟩ 1 1 [.int .i64 r0, .string r1, .int .i64 r2, .int .i64 r3, .slice r5 r4 r6, .int .i64 r7, .slice r9 r8 r10, .int .i64 r11, .slice r13 r12 r14] rfl rfl HT.out.2.1 HT.out.2.2.1 (by omega) h63 hby HT.out.2.2.2.1 (W5.heap.size + 1) HT.out.2.2.2.2 ?_; intro g3 cp w3 hown3 hgrow hat3 hlt3; have hO3 := ((HI.out.keep HU4.out.2.2 (by rw [E5.out] at hgrow; exact hgrow) (w.heap.size + 1 + 1) hSB).trans HHO.out); have v8 := (cell_of_block (o := 8) hO3); have vz := (frozen_of_block (o := 8) hO3); have hM3 := lt_of_block hO3)
      rw [E5.out] at hgrow
      have HI2 := hid (HI.out.step (vs := [.int .i64 r0, .string r1, .int .i64 r2, .int .i64 r3, .slice r5 r4 r6, .int .i64 r7, .slice r9 r8 r10, .int .i64 r11, .slice r13 r12 r14]) (n := j + 1) rfl HU4.out.2.2 HU4.out.1 HU4.out.2.1 HA1.out.1 HA1.out.2.1 HA1.out.2.2 hgrow hown3 (by rw [HLEN.out]) (by rw [← E5.out]; simpa using hat3))
      clear z0 z1 z2 z3 z4 z5 z6 z7 z8 y0 y1 y2 y3 y4 y5 y6 y7 y8 hgrow hown3 hat3 hlt3 hOB5 hO3 v8 vz hM3
      have hpq : pq = n + (tysL (ts.take (j + 1))).length := by
        have := HTK.out
        have := HQ.out
        have := HPJ.out
        omega
      exact ⟨⟨j + 1, _, _, by omega, by go_num, by rw [← hpq], by rw [HTI.out]; exact HI2.out⟩, by simp [intOf]; omega⟩
    · obtain rfl : j = ts.length := by omega
      have HTA := hid (show (wiL (lstT L) n ts).take ts.length = wiL (lstT L) n ts from List.take_of_length_le (by rw [wiL_len]; omega))
      have hpt : p = n + (tysL ts).length := by have := HPJ.out; rw [List.take_length] at this; omega
      rw [HTA.out] at HI
      have FIN := hid (HI.out.done (k := k) (nm := nm) (num := num) (lb := lb) HNM.out (by rw [wiL_len]; have := HSZ.out.2.2; unfold maxLen; omega) rfl)
      rw [hpt]
      obtain ⟨z0, z1, z2, z3, z4, z5, z6, z7, z8⟩ := cells9 hZ
      have zz := fun o => frozen_of_block (o := o) hZ
      have hMr : w.heap.size + 1 < wr.heap.size := by omega
      clear hE hZ hO' hG hbw HI hpt HPJ HTA
      generalize n + (tysL ts).length = pp at *
      go_wp2_with fail
      obtain ⟨ff, q1, q2, q3⟩ := FIN.out
      exact bodyPost_ret (v := .tuple #[.agg #[.int .i64 k, .string nm, .int .i64 num, .int .i64 j1, .slice p1 m1 d1, .int .i64 j2, .slice p2 m2 d2, .int .i64 lb, .slice av ts.length capv], .int .i64 (pp : Int)]) (by simp [results, Tryd.results125, go_sem, z0, z1, z2, z3, z4, z5, z6, z7, z8]) rfl ⟨_, ff, rfl, q1, q2, q3⟩

set_option linter.unusedSimpArgs false in
set_option maxRecDepth 100000 in
set_option maxHeartbeats 1500000 in
theorem l2With_five (L : List Ty) (hL : ∀ u ∈ L, u.cnt ≤ 1048576) (nm : ByteArray) (num : Int) (ty fr : Ty) (lb : Int) (ts : List Tm) (ih : ∀ t ∈ ts, WsC L t) : WsC L (.mk 5 nm num ty fr lb ts) := by
  intro n v fp s lfp w hat hls hN hsz
  have HIH := hid ih
  have HLC := hid hL
  clear ih hL
  have hat0 := hat
  obtain ⟨k1, n1, a1, c1, k2, n2, a2, c2, a3, c3, f1, f2, f3, rfl, hnm, ht1, ht2, rfl, hs⟩ := hat.parts
  obtain ⟨a, cap, hss, hc, hm, hget⟩ := hs.open
  cases hss
  obtain ⟨la, lcap, rfl, hlc, hlm, hlget⟩ := hls.openA
  have HLS := hid hls
  have HLG := hid hlget
  have HG := hid hget
  have hcnt : ty.cnt ≤ 1048576 ∧ fr.cnt ≤ 1048576 ∧ ts.length + szML ts ≤ 1048576 := by simp only [Tm.sz] at hsz; omega
  have HSZ := hid hcnt
  have hto : (tysOf (.mk 5 nm num ty fr lb ts)).length = 1 + (tysL ts).length := by
    simp only [tysOf, List.length_append]
    rfl
  have hNN : n + 1 + (tysL ts).length ≤ L.length := by
    rw [hto] at hN
    omega
  have HTL := hid (show n + (tysOf (.mk 5 nm num ty fr lb ts)).length = n + 1 + (tysL ts).length by
    rw [hto]
    omega)
  have HTW := hid (show wiT (lstT L) n (.mk 5 nm num ty fr lb ts) = .mk 5 nm num (lstT L n) fr lb (wiL (lstT L) (n + 1) ts) by
    simp only [wiT]
    simp [hasTy])
  rw [HTL.out, HTW.out]
  clear HTL HTW hto hN hat hat0 hs hget hls hlget hsz hcnt
  have hb0 : Below w.heap.size w (((w.alloc (Obj.cells #[.int .i64 5, .string nm, .int .i64 num, .int .i64 k1, .slice a1 n1 c1, .int .i64 k2, .slice a2 n2 c2, .int .i64 lb, .slice a3 ts.length c3] 35)).alloc (Obj.cells #[.int .i64 0, .string ByteArray.empty, .int .i64 0, .int .i64 0, .slice none 0 0, .int .i64 0, .slice none 0 0, .int .i64 0, .slice none 0 0] 35)).alloc (Obj.cells #[.int .i64 5, .string nm, .int .i64 num, .int .i64 k1, .slice a1 n1 c1, .int .i64 k2, .slice a2 n2 c2, .int .i64 lb, .slice a3 ts.length c3] 35)) := (((Below.refl _ _).alloc (Nat.le_refl _) _).alloc (by simp) _).alloc (by simp; omega) _
  have hs0 : ((((w.alloc (Obj.cells #[.int .i64 5, .string nm, .int .i64 num, .int .i64 k1, .slice a1 n1 c1, .int .i64 k2, .slice a2 n2 c2, .int .i64 lb, .slice a3 ts.length c3] 35)).alloc (Obj.cells #[.int .i64 0, .string ByteArray.empty, .int .i64 0, .int .i64 0, .slice none 0 0, .int .i64 0, .slice none 0 0, .int .i64 0, .slice none 0 0] 35)).alloc (Obj.cells #[.int .i64 5, .string nm, .int .i64 num, .int .i64 k1, .slice a1 n1 c1, .int .i64 k2, .slice a2 n2 c2, .int .i64 lb, .slice a3 ts.length c3] 35))).heap.size = w.heap.size + 1 + 1 + 1 := by simp
  have HZ0 := hid hs0
  have HNM := hid hnm
  have HT2 := hid ht2
  have HB0 := hid hb0
  clear hnm hs0
  go_enter Tryd.func125, Tryd.ntmps125
  go_wp2_with fail
  refine (l1Copy_any ty _ _ _ (ht1.below hb0) HSZ.out.1).mono ?_
  rintro e w1 ⟨v1, g1, rfl, hv1, hg1, hb1⟩
  obtain ⟨j1, m1, p1, d1, rfl⟩ := hv1.agg
  obtain ⟨hE, hZ, hO⟩ := three_out hb1
  obtain ⟨x0, x1, x2, x3, x4, x5, x6, x7, x8⟩ := cells9 hE
  obtain ⟨y0, y1, y2, y3, y4, y5, y6, y7, y8⟩ := cells9 hO
  have yz := fun o => frozen_of_block (o := o) hO
  have hM : w.heap.size + 1 + 1 < w1.heap.size := lt_of_block hO
  rw [HZ0.out] at hg1
  have b1 := below_trans hb0 hb1
  have HV1 := hid (And.intro hv1 hg1)
  have HE := hid (And.intro hE (And.intro hZ hO))
  clear hv1 hg1 hb1 hE hZ hO hb0 ht1
  go_wp2_with fail
  have b2 := (b1.setCell (p := ⟨w.heap.size + 1 + 1, 3, none⟩) (by simp; omega) (.int .i64 j1)).setCell (p := ⟨w.heap.size + 1 + 1, 4, none⟩) (by simp; omega) (.slice p1 m1 d1)
  have ab1 := ((Above.refl (w.heap.size + 1 + 1 + 1) w1).setCell (p := ⟨w.heap.size + 1 + 1, 3, none⟩) (Nat.lt_succ_self _) (.int .i64 j1)).setCell (p := ⟨w.heap.size + 1 + 1, 4, none⟩) (Nat.lt_succ_self _) (.slice p1 m1 d1)
  refine (l1Copy_any fr _ _ _ (HT2.out.below b2) HSZ.out.2.1).mono ?_
  rintro e w2 ⟨v2, g2, rfl, hv2, hg2, hb2⟩
  obtain ⟨j2, m2, p2, d2, rfl⟩ := hv2.agg
  have hv1' := (HV1.out.1.above ab1 HV1.out.2.ge).below hb2
  have F2 := Fresh.append (HV1.out.2.above ab1 (Nat.le_refl _)) hg2 (Nat.le_refl _) (by rw [size_setCell, size_setCell]; omega) hb2
  have hO2 : w2.heap[w.heap.size + 1 + 1]? = some (.cells #[.int .i64 5, .string nm, .int .i64 num, .int .i64 j1, .slice p1 m1 d1, .int .i64 k2, .slice a2 n2 c2, .int .i64 lb, .slice a3 ts.length c3] 35 (0, 0)) :=
    blk (heap_setCell_at (heap_setCell_at HE.out.2.2 _) _) hb2
  have hE2 := blk (blk_ne (a := ⟨w.heap.size + 1 + 1, 4, none⟩) (u := .slice p1 m1 d1) (blk_ne (a := ⟨w.heap.size + 1 + 1, 3, none⟩) (u := .int .i64 j1) HE.out.1 (by simp; omega)) (by simp; omega)) hb2
  have hZ2 := blk (blk_ne (a := ⟨w.heap.size + 1 + 1, 4, none⟩) (u := .slice p1 m1 d1) (blk_ne (a := ⟨w.heap.size + 1 + 1, 3, none⟩) (u := .int .i64 j1) HE.out.2.1 (by simp)) (by simp)) hb2
  have b3 := below_trans b2 hb2
  clear x0 x1 x2 x3 x4 x5 x6 x7 x8 y0 y1 y2 y3 y4 y5 y6 y7 y8 yz hM HE HV1 hg2 b1 b2 hb2 ab1
  obtain ⟨x0, x1, x2, x3, x4, x5, x6, x7, x8⟩ := cells9 hE2
  obtain ⟨y0, y1, y2, y3, y4, y5, y6, y7, y8⟩ := cells9 hO2
  have yz := fun o => frozen_of_block (o := o) hO2
  have hM2 : w.heap.size + 1 + 1 < w2.heap.size := lt_of_block hO2
  have hnL : n < L.length := by omega
  obtain ⟨lb', lo, lk, ln, lla, lc, lf, rfl, hlb, l0, l1, hlat, -⟩ := HLG.out n hnL
  have hb3s := b3.size
  have W3 := hid (show Below w.heap.size w (((w2.setCell ⟨w.heap.size + 1 + 1, 5, none⟩ (.int .i64 j2)).setCell ⟨w.heap.size + 1 + 1, 6, none⟩ (.slice p2 m2 d2)).setCell ⟨w.heap.size + 1 + 1, 8, none⟩ (.slice none 0 0)) from ((b3.setCell (p := ⟨w.heap.size + 1 + 1, 5, none⟩) (by simp; omega) (.int .i64 j2)).setCell (p := ⟨w.heap.size + 1 + 1, 6, none⟩) (by simp; omega) (.slice p2 m2 d2)).setCell (p := ⟨w.heap.size + 1 + 1, 8, none⟩) (by simp; omega) (.slice none 0 0))
  have ab3 := hid (((((Above.refl (w.heap.size + 1 + 1 + 1) w2).setCell (p := ⟨w.heap.size + 1 + 1, 5, none⟩) (Nat.lt_succ_self _) (.int .i64 j2)).setCell (p := ⟨w.heap.size + 1 + 1, 6, none⟩) (Nat.lt_succ_self _) (.slice p2 m2 d2)).setCell (p := ⟨w.heap.size + 1 + 1, 8, none⟩) (Nat.lt_succ_self _) (.slice none 0 0)))
  replace l0 := (b3.cell (p := ⟨lb', lo + n * 2, none⟩) hlb).trans l0
  replace l1 := (b3.cell (p := ⟨lb', lo + n * 2 + 1, none⟩) hlb).trans l1
  have HLN := hid (show lstT L n = L[n] by simp [lstT, hnL])
  have HV2 := hid (And.intro hv1' (And.intro hv2 F2))
  have HE2 := hid (And.intro hE2 (And.intro hZ2 hO2))
  clear hv1' hv2 F2 hE2 hZ2 hO2 b3
  go_wp2_with fail
  refine (l1Copy_any L[n] _ _ _ (hlat.below W3.out) (HLC.out _ (List.getElem_mem hnL))).mono ?_
  rintro e w3 ⟨v3, g3, rfl, hv3, hg3, hb3⟩
  obtain ⟨j3, m3, p3, d3, rfl⟩ := hv3.agg
  have hv2' := (HV2.out.2.1.above ab3.out (fun b hb => HV2.out.2.2.ge b (by simp [hb]))).below hb3
  have G2 : Fresh (w.heap.size + 1 + 1 + 1) w2 g2 := ⟨(List.nodup_append.1 HV2.out.2.2.1).2.1, fun b hb => HV2.out.2.2.2 b (by simp [hb])⟩
  have hsz3 : (((w2.setCell ⟨w.heap.size + 1 + 1, 5, none⟩ (.int .i64 j2)).setCell ⟨w.heap.size + 1 + 1, 6, none⟩ (.slice p2 m2 d2)).setCell ⟨w.heap.size + 1 + 1, 8, none⟩ (.slice none 0 0)).heap.size = w2.heap.size := by rw [size_setCell, size_setCell, size_setCell]
  have G3 := (G2.above ab3.out (Nat.le_refl _)).below hb3
  rw [hsz3] at hg3
  have F3 : Fresh (w.heap.size + 1 + 1 + 1) w3 (g3 ++ g2) := by
    refine ⟨List.nodup_append.2 ⟨hg3.1, G3.1, fun a ha b hb e => ?_⟩, fun b hb => ?_⟩
    · have := hg3.ge a ha
      have := (G2.2 b hb).2.1
      omega
    · rcases List.mem_append.1 hb with hb | hb
      · exact ⟨by have := hg3.ge b hb; omega, (hg3.2 b hb).2⟩
      · exact G3.2 b hb
  have hO3 : w3.heap[w.heap.size + 1 + 1]? = some (.cells #[.int .i64 5, .string nm, .int .i64 num, .int .i64 j1, .slice p1 m1 d1, .int .i64 j2, .slice p2 m2 d2, .int .i64 lb, .slice none 0 0] 35 (0, 0)) :=
    blk (heap_setCell_at (heap_setCell_at (heap_setCell_at HE2.out.2.2 _) _) _) hb3
  have hE3 := blk (blk_ne (a := ⟨w.heap.size + 1 + 1, 8, none⟩) (u := .slice none 0 0) (blk_ne (a := ⟨w.heap.size + 1 + 1, 6, none⟩) (u := .slice p2 m2 d2) (blk_ne (a := ⟨w.heap.size + 1 + 1, 5, none⟩) (u := .int .i64 j2) HE2.out.1 (by simp; omega)) (by simp; omega)) (by simp; omega)) hb3
  have hZ3 := blk (blk_ne (a := ⟨w.heap.size + 1 + 1, 8, none⟩) (u := .slice none 0 0) (blk_ne (a := ⟨w.heap.size + 1 + 1, 6, none⟩) (u := .slice p2 m2 d2) (blk_ne (a := ⟨w.heap.size + 1 + 1, 5, none⟩) (u := .int .i64 j2) HE2.out.2.1 (by simp)) (by simp)) (by simp)) hb3
  have b4 := below_trans W3.out hb3
  clear x0 x1 x2 x3 x4 x5 x6 x7 x8 y0 y1 y2 y3 y4 y5 y6 y7 y8 yz hM2 HE2 HV2 hlat l0 l1 G2 G3 hb3 W3 ab3 hsz3
  obtain ⟨x0, x1, x2, x3, x4, x5, x6, x7, x8⟩ := cells9 hE3
  obtain ⟨y0, y1, y2, y3, y4, y5, y6, y7, y8⟩ := cells9 hO3
  have yz := fun o => frozen_of_block (o := o) hO3
  have hM3 : w.heap.size + 1 + 1 < w3.heap.size := lt_of_block hO3
  have hI0 : WiI w w3.heap.size #[.int .i64 5, .string nm, .int .i64 num, .int .i64 k1, .slice a1 n1 c1, .int .i64 k2, .slice a2 n2 c2, .int .i64 lb, .slice a3 ts.length c3] [.int .i64 5, .string nm, .int .i64 num, .int .i64 j3, .slice p3 m3 d3, .int .i64 j2, .slice p2 m2 d2, .int .i64 lb] L[n] fr (.agg #[.int .i64 j3, .slice p3 m3 d3]) (.agg #[.int .i64 j2, .slice p2 m2 d2]) g3 g2 [] (.slice none 0 0) [] ((w3.setCell ⟨w.heap.size + 1 + 1, 3, none⟩ (.int .i64 j3)).setCell ⟨w.heap.size + 1 + 1, 4, none⟩ (.slice p3 m3 d3)) := by
    have ab4 := ((Above.refl (w.heap.size + 1 + 1 + 1) w3).setCell (p := ⟨w.heap.size + 1 + 1, 3, none⟩) (Nat.lt_succ_self _) (.int .i64 j3)).setCell (p := ⟨w.heap.size + 1 + 1, 4, none⟩) (Nat.lt_succ_self _) (.slice p3 m3 d3)
    exact ⟨blk_ne (blk_ne hE3 (by simp; omega)) (by simp; omega), blk_ne (blk_ne hZ3 (by simp)) (by simp), heap_setCell_at (heap_setCell_at hO3 _) _, hv3.above ab4 (fun b hb => F3.ge b (by simp [hb])), hv2'.above ab4 (fun b hb => F3.ge b (by simp [hb])), F3.above ab4 (Nat.le_refl _),
      fun b hb => (F3.2 b hb).2.1, hM3, by rw [size_setCell, size_setCell]; omega, GrowM.zero _ _, (b4.setCell (p := ⟨w.heap.size + 1 + 1, 3, none⟩) (by simp; omega) _).setCell (p := ⟨w.heap.size + 1 + 1, 4, none⟩) (by simp; omega) _⟩
  have HI0 := hid hI0
  clear hI0 hv3 hv2' hg3 F3 hO3 hE3 hZ3 b4
  have hn1 : (n : Int) + 1 ≤ 9223372036854775807 := by omega
  go_wp2_with fail
  go_loopw [2, 9] (fun pn i wr => ∃ (j : Nat) (x : Value) (f : List Nat), j ≤ ts.length ∧ i = .int .i64 j ∧ pn = .int .i64 (((n + 1) + (tysL (ts.take j)).length : Nat) : Int) ∧ WiI w w3.heap.size #[.int .i64 5, .string nm, .int .i64 num, .int .i64 k1, .slice a1 n1 c1, .int .i64 k2, .slice a2 n2 c2, .int .i64 lb, .slice a3 ts.length c3] [.int .i64 5, .string nm, .int .i64 num, .int .i64 j3, .slice p3 m3 d3, .int .i64 j2, .slice p2 m2 d2, .int .i64 lb] L[n] fr (.agg #[.int .i64 j3, .slice p3 m3 d3]) (.agg #[.int .i64 j2, .slice p2 m2 d2]) g3 g2 ((wiL (lstT L) (n + 1) ts).take j) x f wr) (fun _ i _ => ts.length - (intOf i).toNat)
  case atStart => exact ⟨0, _, [], Nat.zero_le _, rfl, by simp [tysL], HI0.out⟩
  case round =>
    obtain ⟨j, x, f, hj, rfl, rfl, hI⟩ := hrel
    have hI0 := hI
    obtain ⟨hE, hZ, hO, -, -, -, -, hSB, hBw, hG, hbw⟩ := hI0
    have hlen : ((wiL (lstT L) (n + 1) ts).take j).length = j := by rw [List.length_take, wiL_len]; omega
    obtain ⟨av, capv, hshape⟩ := hG.shape
    rw [hlen] at hshape
    subst hshape
    have hO' : wr.heap[w.heap.size + 1 + 1]? = some (.cells #[.int .i64 5, .string nm, .int .i64 num, .int .i64 j3, .slice p3 m3 d3, .int .i64 j2, .slice p2 m2 d2, .int .i64 lb, .slice av j capv] 35 (0, 0)) := hO
    clear hO
    obtain ⟨x0, x1, x2, x3, x4, x5, x6, x7, x8⟩ := cells9 hE
    obtain ⟨y0, y1, y2, y3, y4, y5, y6, y7, y8⟩ := cells9 hO'
    have yz := fun o => frozen_of_block (o := o) hO'
    have HI := hid hI
    have HLEN := hid hlen
    generalize hp : (n + 1) + (tysL (ts.take j)).length = p at *
    have HPJ := hid hp
    clear hI hlen hp
    have hSw : w.heap.size + 1 + 1 < wr.heap.size := by omega
    have hSw0 : w.heap.size < wr.heap.size := by omega
    by_cases hlk : j < ts.length
    · obtain ⟨b, o, q0, q1, q2, q3, q4, q5, q6, q7, q8, q9, q10, q11, q12, q13, q14, fk, rfl, hblt, c0, c1', c2', c3', c4, c5, c6, c7, c8, hatk, hfk⟩ := HG.out j hlk
      have hblw : b < wr.heap.size := by omega
      have d0 := (hbw.cell (p := ⟨b, o + j * 9, none⟩) hblt).trans c0
      have e1 := (hbw.cell (p := ⟨b, o + j * 9 + 1, none⟩) hblt).trans c1'
      have e2 := (hbw.cell (p := ⟨b, o + j * 9 + 2, none⟩) hblt).trans c2'
      have d3' := (hbw.cell (p := ⟨b, o + j * 9 + 3, none⟩) hblt).trans c3'
      have d4 := (hbw.cell (p := ⟨b, o + j * 9 + 4, none⟩) hblt).trans c4
      have d5 := (hbw.cell (p := ⟨b, o + j * 9 + 5, none⟩) hblt).trans c5
      have d6 := (hbw.cell (p := ⟨b, o + j * 9 + 6, none⟩) hblt).trans c6
      have d7 := (hbw.cell (p := ⟨b, o + j * 9 + 7, none⟩) hblt).trans c7
      have d8 := (hbw.cell (p := ⟨b, o + j * 9 + 8, none⟩) hblt).trans c8
      have hal : Below wr.heap.size wr (wr.alloc (Obj.cells #[.int .i64 0, .string ByteArray.empty, .int .i64 0, .int .i64 0, .slice none 0 0, .int .i64 0, .slice none 0 0, .int .i64 0, .slice none 0 0] 35)) := (Below.refl _ _).alloc (Nat.le_refl _) _
      have HATK := hid ((hatk.below hbw).below hal)
      have HLK := hid ((HLS.out.below hbw).below hal)
      have htk := congrArg List.length (tysL_take hlk)
      have htl := tysL_take_len ts (j + 1)
      rw [List.length_append] at htk
      have hbn : p + (tysOf ts[j]).length ≤ L.length := by have := HPJ.out; omega
      have hszk : ts[j].sz ≤ 1048576 := by have := HSZ.out.2.2; have := sz_mem (List.getElem_mem hlk); omega
      have HTK := hid htk
      have HTI := hid (wiL_take (lstT L) ts (n + 1) j hlk)
      rw [HPJ.out] at HTI
      have HCK := HIH.out _ (List.getElem_mem hlk) p _ _ _ _ _ HATK.out HLK.out hbn hszk
      have HHO := hid hO'
      have HHZ := hid hZ
      have HHG := hid hG
      clear c0 c1' c2' c3' c4 c5 c6 c7 c8 hatk hfk htk htl hE hZ hO' hG hal hbw HATK HLK
      generalize hq : p + (tysOf ts[j]).length = pq at *
      have HQ := hid hq
      clear hq
      have HCK := hid HCK
      go_wp2_with fail
      refine HCK.out.mono ?_
      rintro e w4 ⟨v', f', rfl, hu, hfu, hbu⟩
      obtain ⟨r0, r1, r2, r3, r4, r5, r6, r7, r8, r9, r10, r11, r12, r13, r14, rfl⟩ := hu.agg
      have hKB : w4.heap[wr.heap.size]? = some (Obj.cells #[.int .i64 0, .string ByteArray.empty, .int .i64 0, .int .i64 0, .slice none 0 0, .int .i64 0, .slice none 0 0, .int .i64 0, .slice none 0 0] 35) := (hbu.block wr.heap.size (by simp)).trans (alloc_new _ _)
      have hOB := ((alloc1 hbu).block (w.heap.size + 1 + 1) (by omega)).trans HHO.out
      clear x0 x1 x2 x3 x4 x5 x6 x7 x8 y0 y1 y2 y3 y4 y5 y6 y7 y8 yz d0 e1 e2 d3' d4 d5 d6 d7 d8
      obtain ⟨z0, z1, z2, z3, z4, z5, z6, z7, z8⟩ := cells9 hKB
      obtain ⟨y0, y1, y2, y3, y4, y5, y6, y7, y8⟩ := cells9 hOB
      have zz := fun o => frozen_of_block (o := o) hKB
      have hM4 : wr.heap.size < w4.heap.size := lt_of_block hKB
      have hG4 := HHG.out.below (w' := put w4 wr.heap.size 0 [.int .i64 r0, .string r1, .int .i64 r2, .int .i64 r3, .slice r5 r4 r6, .int .i64 r7, .slice r9 r8 r10, .int .i64 r11, .slice r13 r12 r14]) (below_put (alloc1 hbu) (Nat.le_refl _))
      obtain ⟨xs, ho1, ha1, hf1, hn1⟩ := hG4
      rw [HLEN.out] at ho1
      have HU4 := hid (And.intro hu (And.intro hfu hbu))
      have HA1 := hid (And.intro ha1 (And.intro hf1 hn1))
      have hs4 : (put w4 wr.heap.size 0 [.int .i64 r0, .string r1, .int .i64 r2, .int .i64 r3, .slice r5 r4 r6, .int .i64 r7, .slice r9 r8 r10, .int .i64 r11, .slice r13 r12 r14]).heap.size = w4.heap.size := size_put
      have HS4 := hid hs4
      have hBw4 : w3.heap.size ≤ w4.heap.size := by omega
      have h63 : j + 1 ≤ maxLen := by unfold maxLen; have := HSZ.out.2.2; omega
      have hby : (j + 1) * 128 ≤ 140737488355328 := by have := HSZ.out.2.2; omega
      obtain ⟨i0, hi0, hz0, hz1, hz2⟩ := info_parts (P := Tryd.prog) (e := 35) Tryd.infoTm
      have HKB := hid (And.intro hKB hOB)
      clear hu hfu hbu ha1 hf1 hn1 hs4 hKB hOB
      go_upto_region 13 with (fail)
      generalize hW5 : (((((((((w4.setCell ⟨wr.heap.size, 0, none⟩ (.int .i64 r0)).setCell ⟨wr.heap.size, 1, none⟩ (.string r1)).setCell ⟨wr.heap.size, 2, none⟩ (.int .i64 r2)).setCell ⟨wr.heap.size, 3, none⟩ (.int .i64 r3)).setCell ⟨wr.heap.size, 4, none⟩ (.slice r5 r4 r6)).setCell ⟨wr.heap.size, 5, none⟩ (.int .i64 r7)).setCell ⟨wr.heap.size, 6, none⟩ (.slice r9 r8 r10)).setCell ⟨wr.heap.size, 7, none⟩ (.int .i64 r11)).setCell ⟨wr.heap.size, 8, none⟩ (.slice r13 r12 r14)) = W5
      have e5 : W5 = put w4 wr.heap.size 0 [.int .i64 r0, .string r1, .int .i64 r2, .int .i64 r3, .slice r5 r4 r6, .int .i64 r7, .slice r9 r8 r10, .int .i64 r11, .slice r13 r12 r14] := by rw [← hW5]; simp only [put, Nat.zero_add, Nat.reduceAdd]
      have hKB5 : W5.heap[wr.heap.size]? = some (.cells (Array.mk [.int .i64 r0, .string r1, .int .i64 r2, .int .i64 r3, .slice r5 r4 r6, .int .i64 r7, .slice r9 r8 r10, .int .i64 r11, .slice r13 r12 r14]) 35 (0, 0)) := by
        rw [e5, heap_put HKB.out.1]
        simp only [putA, List.setIfInBounds_toArray, List.set]
      have hOB5 := (show W5.heap[w.heap.size + 1 + 1]? = w4.heap[w.heap.size + 1 + 1]? by rw [e5, heap_put_ne (by omega)]).trans HKB.out.2
      have hs5 : w4.heap.size = W5.heap.size := by rw [e5, HS4.out]
      rw [← e5] at ho1
      have hBw5 : w3.heap.size ≤ W5.heap.size := by omega
      have hM5 : w.heap.size + 1 + 1 < W5.heap.size := by omega
      have hM6 : wr.heap.size < W5.heap.size := by omega
      have E5 := hid e5
      clear hW5 e5 hs5 z0 z1 z2 z3 z4 z5 z6 z7 z8 zz y0 y1 y2 y3 y4 y5 y6 y7 y8 hM4 hBw4
      obtain ⟨z0, z1, z2, z3, z4, z5, z6, z7, z8⟩ := cells9 hKB5
      obtain ⟨y0, y1, y2, y3, y4, y5, y6, y7, y8⟩ := cells9 hOB5
      clear hKB5
      have t1 : (W5.alloc (Obj.cells #[.int .i64 r0, .string r1, .int .i64 r2, .int .i64 r3, .slice r5 r4 r6, .int .i64 r7, .slice r9 r8 r10, .int .i64 r11, .slice r13 r12 r14] 35)).ownsRow w3.heap.size 35 9 (.slice av j capv) j xs := ho1.alloc _
      have t2 : ∀ jj u, ([.int .i64 r0, .string r1, .int .i64 r2, .int .i64 r3, .slice r5 r4 r6, .int .i64 r7, .slice r9 r8 r10, .int .i64 r11, .slice r13 r12 r14] : List Value)[jj]? = some u → (W5.alloc (Obj.cells #[.int .i64 r0, .string r1, .int .i64 r2, .int .i64 r3, .slice r5 r4 r6, .int .i64 r7, .slice r9 r8 r10, .int .i64 r11, .slice r13 r12 r14] 35)).cell? ((⟨W5.heap.size, 0, none⟩ : Addr).add jj) = some u := (World.news_of_block (cs := #[.int .i64 r0, .string r1, .int .i64 r2, .int .i64 r3, .slice r5 r4 r6, .int .i64 r7, .slice r9 r8 r10, .int .i64 r11, .slice r13 r12 r14]) (t := 35) (fr := (0, 0)) (heap_alloc_new W5 _))
      have t3 : ∀ u ∈ ([.int .i64 r0, .string r1, .int .i64 r2, .int .i64 r3, .slice r5 r4 r6, .int .i64 r7, .slice r9 r8 r10, .int .i64 r11, .slice r13 r12 r14] : List Value), u.oneCell' = true := by simp [Value.oneCell']
      have t4 : w3.heap.size ≤ (W5.alloc (Obj.cells #[.int .i64 r0, .string r1, .int .i64 r2, .int .i64 r3, .slice r5 r4 r6, .int .i64 r7, .slice r9 r8 r10, .int .i64 r11, .slice r13 r12 r14] 35)).heap.size := by simp; omega
      have t5 : (W5.alloc (Obj.cells #[.int .i64 r0, .string r1, .int .i64 r2, .int .i64 r3, .slice r5 r4 r6, .int .i64 r7, .slice r9 r8 r10, .int .i64 r11, .slice r13 r12 r14] 35)).heap.size = W5.heap.size + 1 := by simp
      have HT := hid (And.intro t1 (And.intro t2 (And.intro t3 (And.intro t4 t5))))
      clear t1 t2 t3 t4 t5 ho1
      go_wp2_with (refine wpList_append_lies _ rfl (.tmp 57) (.tmp 59) 33 rfl w3.heap.size 35 i0 _ 9 128 Tryd.underElemsM hi0 hz0 hz1 hz2 rfl (by omega) (.slice av j capv) j xs rfl HT.out.1 ⟨W5.heap.size, 0, none⟩ 1 1 [.int .i64 r0, .string r1, .int .i64 r2, .int .i64 r3, .slice r5 r4 r6, .int .i64 r7, .slice r9 r8 r10, .int .i64 r11, .slice r13 r12 r14] rfl rfl HT.out.2.1 HT.out.2.2.1 (by omega) h63 hby HT.out.2.2.2.1 (W5.heap.size + 1) HT.out.2.2.2.2 ?_; intro g3 cp w3 hown3 hgrow hat3 hlt3; have hO3 := ((HI.out.keep HU4.out.2.2 (by rw [E5.out] at hgrow; exact hgrow) (w.heap.size + 1 + 1) hSB).trans HHO.out); have v8 := (cell_of_block (o := 8) hO3); have vz := (frozen_of_block (o := 8) hO3); have hM3 := lt_of_block hO3)
      rw [E5.out] at hgrow
      have HI2 := hid (HI.out.step (vs := [.int .i64 r0, .string r1, .int .i64 r2, .int .i64 r3, .slice r5 r4 r6, .int .i64 r7, .slice r9 r8 r10, .int .i64 r11, .slice r13 r12 r14]) (n := j + 1) rfl HU4.out.2.2 HU4.out.1 HU4.out.2.1 HA1.out.1 HA1.out.2.1 HA1.out.2.2 hgrow hown3 (by rw [HLEN.out]) (by rw [← E5.out]; simpa using hat3))
      clear z0 z1 z2 z3 z4 z5 z6 z7 z8 y0 y1 y2 y3 y4 y5 y6 y7 y8 hgrow hown3 hat3 hlt3 hOB5 hO3 v8 vz hM3
      have hpq : pq = (n + 1) + (tysL (ts.take (j + 1))).length := by
        have := HTK.out
        have := HQ.out
        have := HPJ.out
        omega
      exact ⟨⟨j + 1, _, _, by omega, by go_num, by rw [← hpq], by rw [HTI.out]; exact HI2.out⟩, by simp [intOf]; omega⟩
    · obtain rfl : j = ts.length := by omega
      have HTA := hid (show (wiL (lstT L) (n + 1) ts).take ts.length = wiL (lstT L) (n + 1) ts from List.take_of_length_le (by rw [wiL_len]; omega))
      have hpt : p = (n + 1) + (tysL ts).length := by have := HPJ.out; rw [List.take_length] at this; omega
      rw [HTA.out] at HI
      have FIN := hid (HI.out.done (k := 5) (nm := nm) (num := num) (lb := lb) HNM.out (by rw [wiL_len]; have := HSZ.out.2.2; unfold maxLen; omega) rfl)
      rw [hpt]
      obtain ⟨z0, z1, z2, z3, z4, z5, z6, z7, z8⟩ := cells9 hZ
      have zz := fun o => frozen_of_block (o := o) hZ
      have hMr : w.heap.size + 1 < wr.heap.size := by omega
      clear hE hZ hO' hG hbw HI hpt HPJ HTA
      generalize (n + 1) + (tysL ts).length = pp at *
      go_wp2_with fail
      obtain ⟨ff, q1, q2, q3⟩ := FIN.out
      exact bodyPost_ret (v := .tuple #[.agg #[.int .i64 5, .string nm, .int .i64 num, .int .i64 j3, .slice p3 m3 d3, .int .i64 j2, .slice p2 m2 d2, .int .i64 lb, .slice av ts.length capv], .int .i64 (pp : Int)]) (by simp [results, Tryd.results125, go_sem, z0, z1, z2, z3, z4, z5, z6, z7, z8]) rfl ⟨_, ff, rfl, by rw [HLN.out]; exact q1, q2, q3⟩

set_option linter.unusedSimpArgs false in
set_option maxRecDepth 100000 in
set_option maxHeartbeats 1500000 in
theorem l2With_thirteen (L : List Ty) (hL : ∀ u ∈ L, u.cnt ≤ 1048576) (nm : ByteArray) (num : Int) (ty fr : Ty) (lb : Int) (ts : List Tm) (ih : ∀ t ∈ ts, WsC L t) : WsC L (.mk 13 nm num ty fr lb ts) := by
  intro n v fp s lfp w hat hls hN hsz
  have HIH := hid ih
  have HLC := hid hL
  clear ih hL
  have hat0 := hat
  obtain ⟨k1, n1, a1, c1, k2, n2, a2, c2, a3, c3, f1, f2, f3, rfl, hnm, ht1, ht2, rfl, hs⟩ := hat.parts
  obtain ⟨a, cap, hss, hc, hm, hget⟩ := hs.open
  cases hss
  obtain ⟨la, lcap, rfl, hlc, hlm, hlget⟩ := hls.openA
  have HLS := hid hls
  have HLG := hid hlget
  have HG := hid hget
  have hcnt : ty.cnt ≤ 1048576 ∧ fr.cnt ≤ 1048576 ∧ ts.length + szML ts ≤ 1048576 := by simp only [Tm.sz] at hsz; omega
  have HSZ := hid hcnt
  have hto : (tysOf (.mk 13 nm num ty fr lb ts)).length = 1 + (tysL ts).length := by
    simp only [tysOf, List.length_append]
    rfl
  have hNN : n + 1 + (tysL ts).length ≤ L.length := by
    rw [hto] at hN
    omega
  have HTL := hid (show n + (tysOf (.mk 13 nm num ty fr lb ts)).length = n + 1 + (tysL ts).length by
    rw [hto]
    omega)
  have HTW := hid (show wiT (lstT L) n (.mk 13 nm num ty fr lb ts) = .mk 13 nm num (lstT L n) fr lb (wiL (lstT L) (n + 1) ts) by
    simp only [wiT]
    simp [hasTy])
  rw [HTL.out, HTW.out]
  clear HTL HTW hto hN hat hat0 hs hget hls hlget hsz hcnt
  have hb0 : Below w.heap.size w (((w.alloc (Obj.cells #[.int .i64 13, .string nm, .int .i64 num, .int .i64 k1, .slice a1 n1 c1, .int .i64 k2, .slice a2 n2 c2, .int .i64 lb, .slice a3 ts.length c3] 35)).alloc (Obj.cells #[.int .i64 0, .string ByteArray.empty, .int .i64 0, .int .i64 0, .slice none 0 0, .int .i64 0, .slice none 0 0, .int .i64 0, .slice none 0 0] 35)).alloc (Obj.cells #[.int .i64 13, .string nm, .int .i64 num, .int .i64 k1, .slice a1 n1 c1, .int .i64 k2, .slice a2 n2 c2, .int .i64 lb, .slice a3 ts.length c3] 35)) := (((Below.refl _ _).alloc (Nat.le_refl _) _).alloc (by simp) _).alloc (by simp; omega) _
  have hs0 : ((((w.alloc (Obj.cells #[.int .i64 13, .string nm, .int .i64 num, .int .i64 k1, .slice a1 n1 c1, .int .i64 k2, .slice a2 n2 c2, .int .i64 lb, .slice a3 ts.length c3] 35)).alloc (Obj.cells #[.int .i64 0, .string ByteArray.empty, .int .i64 0, .int .i64 0, .slice none 0 0, .int .i64 0, .slice none 0 0, .int .i64 0, .slice none 0 0] 35)).alloc (Obj.cells #[.int .i64 13, .string nm, .int .i64 num, .int .i64 k1, .slice a1 n1 c1, .int .i64 k2, .slice a2 n2 c2, .int .i64 lb, .slice a3 ts.length c3] 35))).heap.size = w.heap.size + 1 + 1 + 1 := by simp
  have HZ0 := hid hs0
  have HNM := hid hnm
  have HT2 := hid ht2
  have HB0 := hid hb0
  clear hnm hs0
  go_enter Tryd.func125, Tryd.ntmps125
  go_wp2_with fail
  refine (l1Copy_any ty _ _ _ (ht1.below hb0) HSZ.out.1).mono ?_
  rintro e w1 ⟨v1, g1, rfl, hv1, hg1, hb1⟩
  obtain ⟨j1, m1, p1, d1, rfl⟩ := hv1.agg
  obtain ⟨hE, hZ, hO⟩ := three_out hb1
  obtain ⟨x0, x1, x2, x3, x4, x5, x6, x7, x8⟩ := cells9 hE
  obtain ⟨y0, y1, y2, y3, y4, y5, y6, y7, y8⟩ := cells9 hO
  have yz := fun o => frozen_of_block (o := o) hO
  have hM : w.heap.size + 1 + 1 < w1.heap.size := lt_of_block hO
  rw [HZ0.out] at hg1
  have b1 := below_trans hb0 hb1
  have HV1 := hid (And.intro hv1 hg1)
  have HE := hid (And.intro hE (And.intro hZ hO))
  clear hv1 hg1 hb1 hE hZ hO hb0 ht1
  go_wp2_with fail
  have b2 := (b1.setCell (p := ⟨w.heap.size + 1 + 1, 3, none⟩) (by simp; omega) (.int .i64 j1)).setCell (p := ⟨w.heap.size + 1 + 1, 4, none⟩) (by simp; omega) (.slice p1 m1 d1)
  have ab1 := ((Above.refl (w.heap.size + 1 + 1 + 1) w1).setCell (p := ⟨w.heap.size + 1 + 1, 3, none⟩) (Nat.lt_succ_self _) (.int .i64 j1)).setCell (p := ⟨w.heap.size + 1 + 1, 4, none⟩) (Nat.lt_succ_self _) (.slice p1 m1 d1)
  refine (l1Copy_any fr _ _ _ (HT2.out.below b2) HSZ.out.2.1).mono ?_
  rintro e w2 ⟨v2, g2, rfl, hv2, hg2, hb2⟩
  obtain ⟨j2, m2, p2, d2, rfl⟩ := hv2.agg
  have hv1' := (HV1.out.1.above ab1 HV1.out.2.ge).below hb2
  have F2 := Fresh.append (HV1.out.2.above ab1 (Nat.le_refl _)) hg2 (Nat.le_refl _) (by rw [size_setCell, size_setCell]; omega) hb2
  have hO2 : w2.heap[w.heap.size + 1 + 1]? = some (.cells #[.int .i64 13, .string nm, .int .i64 num, .int .i64 j1, .slice p1 m1 d1, .int .i64 k2, .slice a2 n2 c2, .int .i64 lb, .slice a3 ts.length c3] 35 (0, 0)) :=
    blk (heap_setCell_at (heap_setCell_at HE.out.2.2 _) _) hb2
  have hE2 := blk (blk_ne (a := ⟨w.heap.size + 1 + 1, 4, none⟩) (u := .slice p1 m1 d1) (blk_ne (a := ⟨w.heap.size + 1 + 1, 3, none⟩) (u := .int .i64 j1) HE.out.1 (by simp; omega)) (by simp; omega)) hb2
  have hZ2 := blk (blk_ne (a := ⟨w.heap.size + 1 + 1, 4, none⟩) (u := .slice p1 m1 d1) (blk_ne (a := ⟨w.heap.size + 1 + 1, 3, none⟩) (u := .int .i64 j1) HE.out.2.1 (by simp)) (by simp)) hb2
  have b3 := below_trans b2 hb2
  clear x0 x1 x2 x3 x4 x5 x6 x7 x8 y0 y1 y2 y3 y4 y5 y6 y7 y8 yz hM HE HV1 hg2 b1 b2 hb2 ab1
  obtain ⟨x0, x1, x2, x3, x4, x5, x6, x7, x8⟩ := cells9 hE2
  obtain ⟨y0, y1, y2, y3, y4, y5, y6, y7, y8⟩ := cells9 hO2
  have yz := fun o => frozen_of_block (o := o) hO2
  have hM2 : w.heap.size + 1 + 1 < w2.heap.size := lt_of_block hO2
  have hnL : n < L.length := by omega
  obtain ⟨lb', lo, lk, ln, lla, lc, lf, rfl, hlb, l0, l1, hlat, -⟩ := HLG.out n hnL
  have hb3s := b3.size
  have W3 := hid (show Below w.heap.size w (((w2.setCell ⟨w.heap.size + 1 + 1, 5, none⟩ (.int .i64 j2)).setCell ⟨w.heap.size + 1 + 1, 6, none⟩ (.slice p2 m2 d2)).setCell ⟨w.heap.size + 1 + 1, 8, none⟩ (.slice none 0 0)) from ((b3.setCell (p := ⟨w.heap.size + 1 + 1, 5, none⟩) (by simp; omega) (.int .i64 j2)).setCell (p := ⟨w.heap.size + 1 + 1, 6, none⟩) (by simp; omega) (.slice p2 m2 d2)).setCell (p := ⟨w.heap.size + 1 + 1, 8, none⟩) (by simp; omega) (.slice none 0 0))
  have ab3 := hid (((((Above.refl (w.heap.size + 1 + 1 + 1) w2).setCell (p := ⟨w.heap.size + 1 + 1, 5, none⟩) (Nat.lt_succ_self _) (.int .i64 j2)).setCell (p := ⟨w.heap.size + 1 + 1, 6, none⟩) (Nat.lt_succ_self _) (.slice p2 m2 d2)).setCell (p := ⟨w.heap.size + 1 + 1, 8, none⟩) (Nat.lt_succ_self _) (.slice none 0 0)))
  replace l0 := (b3.cell (p := ⟨lb', lo + n * 2, none⟩) hlb).trans l0
  replace l1 := (b3.cell (p := ⟨lb', lo + n * 2 + 1, none⟩) hlb).trans l1
  have HLN := hid (show lstT L n = L[n] by simp [lstT, hnL])
  have HV2 := hid (And.intro hv1' (And.intro hv2 F2))
  have HE2 := hid (And.intro hE2 (And.intro hZ2 hO2))
  clear hv1' hv2 F2 hE2 hZ2 hO2 b3
  go_wp2_with fail
  refine (l1Copy_any L[n] _ _ _ (hlat.below W3.out) (HLC.out _ (List.getElem_mem hnL))).mono ?_
  rintro e w3 ⟨v3, g3, rfl, hv3, hg3, hb3⟩
  obtain ⟨j3, m3, p3, d3, rfl⟩ := hv3.agg
  have hv2' := (HV2.out.2.1.above ab3.out (fun b hb => HV2.out.2.2.ge b (by simp [hb]))).below hb3
  have G2 : Fresh (w.heap.size + 1 + 1 + 1) w2 g2 := ⟨(List.nodup_append.1 HV2.out.2.2.1).2.1, fun b hb => HV2.out.2.2.2 b (by simp [hb])⟩
  have hsz3 : (((w2.setCell ⟨w.heap.size + 1 + 1, 5, none⟩ (.int .i64 j2)).setCell ⟨w.heap.size + 1 + 1, 6, none⟩ (.slice p2 m2 d2)).setCell ⟨w.heap.size + 1 + 1, 8, none⟩ (.slice none 0 0)).heap.size = w2.heap.size := by rw [size_setCell, size_setCell, size_setCell]
  have G3 := (G2.above ab3.out (Nat.le_refl _)).below hb3
  rw [hsz3] at hg3
  have F3 : Fresh (w.heap.size + 1 + 1 + 1) w3 (g3 ++ g2) := by
    refine ⟨List.nodup_append.2 ⟨hg3.1, G3.1, fun a ha b hb e => ?_⟩, fun b hb => ?_⟩
    · have := hg3.ge a ha
      have := (G2.2 b hb).2.1
      omega
    · rcases List.mem_append.1 hb with hb | hb
      · exact ⟨by have := hg3.ge b hb; omega, (hg3.2 b hb).2⟩
      · exact G3.2 b hb
  have hO3 : w3.heap[w.heap.size + 1 + 1]? = some (.cells #[.int .i64 13, .string nm, .int .i64 num, .int .i64 j1, .slice p1 m1 d1, .int .i64 j2, .slice p2 m2 d2, .int .i64 lb, .slice none 0 0] 35 (0, 0)) :=
    blk (heap_setCell_at (heap_setCell_at (heap_setCell_at HE2.out.2.2 _) _) _) hb3
  have hE3 := blk (blk_ne (a := ⟨w.heap.size + 1 + 1, 8, none⟩) (u := .slice none 0 0) (blk_ne (a := ⟨w.heap.size + 1 + 1, 6, none⟩) (u := .slice p2 m2 d2) (blk_ne (a := ⟨w.heap.size + 1 + 1, 5, none⟩) (u := .int .i64 j2) HE2.out.1 (by simp; omega)) (by simp; omega)) (by simp; omega)) hb3
  have hZ3 := blk (blk_ne (a := ⟨w.heap.size + 1 + 1, 8, none⟩) (u := .slice none 0 0) (blk_ne (a := ⟨w.heap.size + 1 + 1, 6, none⟩) (u := .slice p2 m2 d2) (blk_ne (a := ⟨w.heap.size + 1 + 1, 5, none⟩) (u := .int .i64 j2) HE2.out.2.1 (by simp)) (by simp)) (by simp)) hb3
  have b4 := below_trans W3.out hb3
  clear x0 x1 x2 x3 x4 x5 x6 x7 x8 y0 y1 y2 y3 y4 y5 y6 y7 y8 yz hM2 HE2 HV2 hlat l0 l1 G2 G3 hb3 W3 ab3 hsz3
  obtain ⟨x0, x1, x2, x3, x4, x5, x6, x7, x8⟩ := cells9 hE3
  obtain ⟨y0, y1, y2, y3, y4, y5, y6, y7, y8⟩ := cells9 hO3
  have yz := fun o => frozen_of_block (o := o) hO3
  have hM3 : w.heap.size + 1 + 1 < w3.heap.size := lt_of_block hO3
  have hI0 : WiI w w3.heap.size #[.int .i64 13, .string nm, .int .i64 num, .int .i64 k1, .slice a1 n1 c1, .int .i64 k2, .slice a2 n2 c2, .int .i64 lb, .slice a3 ts.length c3] [.int .i64 13, .string nm, .int .i64 num, .int .i64 j3, .slice p3 m3 d3, .int .i64 j2, .slice p2 m2 d2, .int .i64 lb] L[n] fr (.agg #[.int .i64 j3, .slice p3 m3 d3]) (.agg #[.int .i64 j2, .slice p2 m2 d2]) g3 g2 [] (.slice none 0 0) [] ((w3.setCell ⟨w.heap.size + 1 + 1, 3, none⟩ (.int .i64 j3)).setCell ⟨w.heap.size + 1 + 1, 4, none⟩ (.slice p3 m3 d3)) := by
    have ab4 := ((Above.refl (w.heap.size + 1 + 1 + 1) w3).setCell (p := ⟨w.heap.size + 1 + 1, 3, none⟩) (Nat.lt_succ_self _) (.int .i64 j3)).setCell (p := ⟨w.heap.size + 1 + 1, 4, none⟩) (Nat.lt_succ_self _) (.slice p3 m3 d3)
    exact ⟨blk_ne (blk_ne hE3 (by simp; omega)) (by simp; omega), blk_ne (blk_ne hZ3 (by simp)) (by simp), heap_setCell_at (heap_setCell_at hO3 _) _, hv3.above ab4 (fun b hb => F3.ge b (by simp [hb])), hv2'.above ab4 (fun b hb => F3.ge b (by simp [hb])), F3.above ab4 (Nat.le_refl _),
      fun b hb => (F3.2 b hb).2.1, hM3, by rw [size_setCell, size_setCell]; omega, GrowM.zero _ _, (b4.setCell (p := ⟨w.heap.size + 1 + 1, 3, none⟩) (by simp; omega) _).setCell (p := ⟨w.heap.size + 1 + 1, 4, none⟩) (by simp; omega) _⟩
  have HI0 := hid hI0
  clear hI0 hv3 hv2' hg3 F3 hO3 hE3 hZ3 b4
  have hn1 : (n : Int) + 1 ≤ 9223372036854775807 := by omega
  go_wp2_with fail
  go_loopw [2, 9] (fun pn i wr => ∃ (j : Nat) (x : Value) (f : List Nat), j ≤ ts.length ∧ i = .int .i64 j ∧ pn = .int .i64 (((n + 1) + (tysL (ts.take j)).length : Nat) : Int) ∧ WiI w w3.heap.size #[.int .i64 13, .string nm, .int .i64 num, .int .i64 k1, .slice a1 n1 c1, .int .i64 k2, .slice a2 n2 c2, .int .i64 lb, .slice a3 ts.length c3] [.int .i64 13, .string nm, .int .i64 num, .int .i64 j3, .slice p3 m3 d3, .int .i64 j2, .slice p2 m2 d2, .int .i64 lb] L[n] fr (.agg #[.int .i64 j3, .slice p3 m3 d3]) (.agg #[.int .i64 j2, .slice p2 m2 d2]) g3 g2 ((wiL (lstT L) (n + 1) ts).take j) x f wr) (fun _ i _ => ts.length - (intOf i).toNat)
  case atStart => exact ⟨0, _, [], Nat.zero_le _, rfl, by simp [tysL], HI0.out⟩
  case round =>
    obtain ⟨j, x, f, hj, rfl, rfl, hI⟩ := hrel
    have hI0 := hI
    obtain ⟨hE, hZ, hO, -, -, -, -, hSB, hBw, hG, hbw⟩ := hI0
    have hlen : ((wiL (lstT L) (n + 1) ts).take j).length = j := by rw [List.length_take, wiL_len]; omega
    obtain ⟨av, capv, hshape⟩ := hG.shape
    rw [hlen] at hshape
    subst hshape
    have hO' : wr.heap[w.heap.size + 1 + 1]? = some (.cells #[.int .i64 13, .string nm, .int .i64 num, .int .i64 j3, .slice p3 m3 d3, .int .i64 j2, .slice p2 m2 d2, .int .i64 lb, .slice av j capv] 35 (0, 0)) := hO
    clear hO
    obtain ⟨x0, x1, x2, x3, x4, x5, x6, x7, x8⟩ := cells9 hE
    obtain ⟨y0, y1, y2, y3, y4, y5, y6, y7, y8⟩ := cells9 hO'
    have yz := fun o => frozen_of_block (o := o) hO'
    have HI := hid hI
    have HLEN := hid hlen
    generalize hp : (n + 1) + (tysL (ts.take j)).length = p at *
    have HPJ := hid hp
    clear hI hlen hp
    have hSw : w.heap.size + 1 + 1 < wr.heap.size := by omega
    have hSw0 : w.heap.size < wr.heap.size := by omega
    by_cases hlk : j < ts.length
    · obtain ⟨b, o, q0, q1, q2, q3, q4, q5, q6, q7, q8, q9, q10, q11, q12, q13, q14, fk, rfl, hblt, c0, c1', c2', c3', c4, c5, c6, c7, c8, hatk, hfk⟩ := HG.out j hlk
      have hblw : b < wr.heap.size := by omega
      have d0 := (hbw.cell (p := ⟨b, o + j * 9, none⟩) hblt).trans c0
      have e1 := (hbw.cell (p := ⟨b, o + j * 9 + 1, none⟩) hblt).trans c1'
      have e2 := (hbw.cell (p := ⟨b, o + j * 9 + 2, none⟩) hblt).trans c2'
      have d3' := (hbw.cell (p := ⟨b, o + j * 9 + 3, none⟩) hblt).trans c3'
      have d4 := (hbw.cell (p := ⟨b, o + j * 9 + 4, none⟩) hblt).trans c4
      have d5 := (hbw.cell (p := ⟨b, o + j * 9 + 5, none⟩) hblt).trans c5
      have d6 := (hbw.cell (p := ⟨b, o + j * 9 + 6, none⟩) hblt).trans c6
      have d7 := (hbw.cell (p := ⟨b, o + j * 9 + 7, none⟩) hblt).trans c7
      have d8 := (hbw.cell (p := ⟨b, o + j * 9 + 8, none⟩) hblt).trans c8
      have hal : Below wr.heap.size wr (wr.alloc (Obj.cells #[.int .i64 0, .string ByteArray.empty, .int .i64 0, .int .i64 0, .slice none 0 0, .int .i64 0, .slice none 0 0, .int .i64 0, .slice none 0 0] 35)) := (Below.refl _ _).alloc (Nat.le_refl _) _
      have HATK := hid ((hatk.below hbw).below hal)
      have HLK := hid ((HLS.out.below hbw).below hal)
      have htk := congrArg List.length (tysL_take hlk)
      have htl := tysL_take_len ts (j + 1)
      rw [List.length_append] at htk
      have hbn : p + (tysOf ts[j]).length ≤ L.length := by have := HPJ.out; omega
      have hszk : ts[j].sz ≤ 1048576 := by have := HSZ.out.2.2; have := sz_mem (List.getElem_mem hlk); omega
      have HTK := hid htk
      have HTI := hid (wiL_take (lstT L) ts (n + 1) j hlk)
      rw [HPJ.out] at HTI
      have HCK := HIH.out _ (List.getElem_mem hlk) p _ _ _ _ _ HATK.out HLK.out hbn hszk
      have HHO := hid hO'
      have HHZ := hid hZ
      have HHG := hid hG
      clear c0 c1' c2' c3' c4 c5 c6 c7 c8 hatk hfk htk htl hE hZ hO' hG hal hbw HATK HLK
      generalize hq : p + (tysOf ts[j]).length = pq at *
      have HQ := hid hq
      clear hq
      have HCK := hid HCK
      go_wp2_with fail
      refine HCK.out.mono ?_
      rintro e w4 ⟨v', f', rfl, hu, hfu, hbu⟩
      obtain ⟨r0, r1, r2, r3, r4, r5, r6, r7, r8, r9, r10, r11, r12, r13, r14, rfl⟩ := hu.agg
      have hKB : w4.heap[wr.heap.size]? = some (Obj.cells #[.int .i64 0, .string ByteArray.empty, .int .i64 0, .int .i64 0, .slice none 0 0, .int .i64 0, .slice none 0 0, .int .i64 0, .slice none 0 0] 35) := (hbu.block wr.heap.size (by simp)).trans (alloc_new _ _)
      have hOB := ((alloc1 hbu).block (w.heap.size + 1 + 1) (by omega)).trans HHO.out
      clear x0 x1 x2 x3 x4 x5 x6 x7 x8 y0 y1 y2 y3 y4 y5 y6 y7 y8 yz d0 e1 e2 d3' d4 d5 d6 d7 d8
      obtain ⟨z0, z1, z2, z3, z4, z5, z6, z7, z8⟩ := cells9 hKB
      obtain ⟨y0, y1, y2, y3, y4, y5, y6, y7, y8⟩ := cells9 hOB
      have zz := fun o => frozen_of_block (o := o) hKB
      have hM4 : wr.heap.size < w4.heap.size := lt_of_block hKB
      have hG4 := HHG.out.below (w' := put w4 wr.heap.size 0 [.int .i64 r0, .string r1, .int .i64 r2, .int .i64 r3, .slice r5 r4 r6, .int .i64 r7, .slice r9 r8 r10, .int .i64 r11, .slice r13 r12 r14]) (below_put (alloc1 hbu) (Nat.le_refl _))
      obtain ⟨xs, ho1, ha1, hf1, hn1⟩ := hG4
      rw [HLEN.out] at ho1
      have HU4 := hid (And.intro hu (And.intro hfu hbu))
      have HA1 := hid (And.intro ha1 (And.intro hf1 hn1))
      have hs4 : (put w4 wr.heap.size 0 [.int .i64 r0, .string r1, .int .i64 r2, .int .i64 r3, .slice r5 r4 r6, .int .i64 r7, .slice r9 r8 r10, .int .i64 r11, .slice r13 r12 r14]).heap.size = w4.heap.size := size_put
      have HS4 := hid hs4
      have hBw4 : w3.heap.size ≤ w4.heap.size := by omega
      have h63 : j + 1 ≤ maxLen := by unfold maxLen; have := HSZ.out.2.2; omega
      have hby : (j + 1) * 128 ≤ 140737488355328 := by have := HSZ.out.2.2; omega
      obtain ⟨i0, hi0, hz0, hz1, hz2⟩ := info_parts (P := Tryd.prog) (e := 35) Tryd.infoTm
      have HKB := hid (And.intro hKB hOB)
      clear hu hfu hbu ha1 hf1 hn1 hs4 hKB hOB
      go_upto_region 13 with (fail)
      generalize hW5 : (((((((((w4.setCell ⟨wr.heap.size, 0, none⟩ (.int .i64 r0)).setCell ⟨wr.heap.size, 1, none⟩ (.string r1)).setCell ⟨wr.heap.size, 2, none⟩ (.int .i64 r2)).setCell ⟨wr.heap.size, 3, none⟩ (.int .i64 r3)).setCell ⟨wr.heap.size, 4, none⟩ (.slice r5 r4 r6)).setCell ⟨wr.heap.size, 5, none⟩ (.int .i64 r7)).setCell ⟨wr.heap.size, 6, none⟩ (.slice r9 r8 r10)).setCell ⟨wr.heap.size, 7, none⟩ (.int .i64 r11)).setCell ⟨wr.heap.size, 8, none⟩ (.slice r13 r12 r14)) = W5
      have e5 : W5 = put w4 wr.heap.size 0 [.int .i64 r0, .string r1, .int .i64 r2, .int .i64 r3, .slice r5 r4 r6, .int .i64 r7, .slice r9 r8 r10, .int .i64 r11, .slice r13 r12 r14] := by rw [← hW5]; simp only [put, Nat.zero_add, Nat.reduceAdd]
      have hKB5 : W5.heap[wr.heap.size]? = some (.cells (Array.mk [.int .i64 r0, .string r1, .int .i64 r2, .int .i64 r3, .slice r5 r4 r6, .int .i64 r7, .slice r9 r8 r10, .int .i64 r11, .slice r13 r12 r14]) 35 (0, 0)) := by
        rw [e5, heap_put HKB.out.1]
        simp only [putA, List.setIfInBounds_toArray, List.set]
      have hOB5 := (show W5.heap[w.heap.size + 1 + 1]? = w4.heap[w.heap.size + 1 + 1]? by rw [e5, heap_put_ne (by omega)]).trans HKB.out.2
      have hs5 : w4.heap.size = W5.heap.size := by rw [e5, HS4.out]
      rw [← e5] at ho1
      have hBw5 : w3.heap.size ≤ W5.heap.size := by omega
      have hM5 : w.heap.size + 1 + 1 < W5.heap.size := by omega
      have hM6 : wr.heap.size < W5.heap.size := by omega
      have E5 := hid e5
      clear hW5 e5 hs5 z0 z1 z2 z3 z4 z5 z6 z7 z8 zz y0 y1 y2 y3 y4 y5 y6 y7 y8 hM4 hBw4
      obtain ⟨z0, z1, z2, z3, z4, z5, z6, z7, z8⟩ := cells9 hKB5
      obtain ⟨y0, y1, y2, y3, y4, y5, y6, y7, y8⟩ := cells9 hOB5
      clear hKB5
      have t1 : (W5.alloc (Obj.cells #[.int .i64 r0, .string r1, .int .i64 r2, .int .i64 r3, .slice r5 r4 r6, .int .i64 r7, .slice r9 r8 r10, .int .i64 r11, .slice r13 r12 r14] 35)).ownsRow w3.heap.size 35 9 (.slice av j capv) j xs := ho1.alloc _
      have t2 : ∀ jj u, ([.int .i64 r0, .string r1, .int .i64 r2, .int .i64 r3, .slice r5 r4 r6, .int .i64 r7, .slice r9 r8 r10, .int .i64 r11, .slice r13 r12 r14] : List Value)[jj]? = some u → (W5.alloc (Obj.cells #[.int .i64 r0, .string r1, .int .i64 r2, .int .i64 r3, .slice r5 r4 r6, .int .i64 r7, .slice r9 r8 r10, .int .i64 r11, .slice r13 r12 r14] 35)).cell? ((⟨W5.heap.size, 0, none⟩ : Addr).add jj) = some u := (World.news_of_block (cs := #[.int .i64 r0, .string r1, .int .i64 r2, .int .i64 r3, .slice r5 r4 r6, .int .i64 r7, .slice r9 r8 r10, .int .i64 r11, .slice r13 r12 r14]) (t := 35) (fr := (0, 0)) (heap_alloc_new W5 _))
      have t3 : ∀ u ∈ ([.int .i64 r0, .string r1, .int .i64 r2, .int .i64 r3, .slice r5 r4 r6, .int .i64 r7, .slice r9 r8 r10, .int .i64 r11, .slice r13 r12 r14] : List Value), u.oneCell' = true := by simp [Value.oneCell']
      have t4 : w3.heap.size ≤ (W5.alloc (Obj.cells #[.int .i64 r0, .string r1, .int .i64 r2, .int .i64 r3, .slice r5 r4 r6, .int .i64 r7, .slice r9 r8 r10, .int .i64 r11, .slice r13 r12 r14] 35)).heap.size := by simp; omega
      have t5 : (W5.alloc (Obj.cells #[.int .i64 r0, .string r1, .int .i64 r2, .int .i64 r3, .slice r5 r4 r6, .int .i64 r7, .slice r9 r8 r10, .int .i64 r11, .slice r13 r12 r14] 35)).heap.size = W5.heap.size + 1 := by simp
      have HT := hid (And.intro t1 (And.intro t2 (And.intro t3 (And.intro t4 t5))))
      clear t1 t2 t3 t4 t5 ho1
      go_wp2_with (refine wpList_append_lies _ rfl (.tmp 57) (.tmp 59) 33 rfl w3.heap.size 35 i0 _ 9 128 Tryd.underElemsM hi0 hz0 hz1 hz2 rfl (by omega) (.slice av j capv) j xs rfl HT.out.1 ⟨W5.heap.size, 0, none⟩ 1 1 [.int .i64 r0, .string r1, .int .i64 r2, .int .i64 r3, .slice r5 r4 r6, .int .i64 r7, .slice r9 r8 r10, .int .i64 r11, .slice r13 r12 r14] rfl rfl HT.out.2.1 HT.out.2.2.1 (by omega) h63 hby HT.out.2.2.2.1 (W5.heap.size + 1) HT.out.2.2.2.2 ?_; intro g3 cp w3 hown3 hgrow hat3 hlt3; have hO3 := ((HI.out.keep HU4.out.2.2 (by rw [E5.out] at hgrow; exact hgrow) (w.heap.size + 1 + 1) hSB).trans HHO.out); have v8 := (cell_of_block (o := 8) hO3); have vz := (frozen_of_block (o := 8) hO3); have hM3 := lt_of_block hO3)
      rw [E5.out] at hgrow
      have HI2 := hid (HI.out.step (vs := [.int .i64 r0, .string r1, .int .i64 r2, .int .i64 r3, .slice r5 r4 r6, .int .i64 r7, .slice r9 r8 r10, .int .i64 r11, .slice r13 r12 r14]) (n := j + 1) rfl HU4.out.2.2 HU4.out.1 HU4.out.2.1 HA1.out.1 HA1.out.2.1 HA1.out.2.2 hgrow hown3 (by rw [HLEN.out]) (by rw [← E5.out]; simpa using hat3))
      clear z0 z1 z2 z3 z4 z5 z6 z7 z8 y0 y1 y2 y3 y4 y5 y6 y7 y8 hgrow hown3 hat3 hlt3 hOB5 hO3 v8 vz hM3
      have hpq : pq = (n + 1) + (tysL (ts.take (j + 1))).length := by
        have := HTK.out
        have := HQ.out
        have := HPJ.out
        omega
      exact ⟨⟨j + 1, _, _, by omega, by go_num, by rw [← hpq], by rw [HTI.out]; exact HI2.out⟩, by simp [intOf]; omega⟩
    · obtain rfl : j = ts.length := by omega
      have HTA := hid (show (wiL (lstT L) (n + 1) ts).take ts.length = wiL (lstT L) (n + 1) ts from List.take_of_length_le (by rw [wiL_len]; omega))
      have hpt : p = (n + 1) + (tysL ts).length := by have := HPJ.out; rw [List.take_length] at this; omega
      rw [HTA.out] at HI
      have FIN := hid (HI.out.done (k := 13) (nm := nm) (num := num) (lb := lb) HNM.out (by rw [wiL_len]; have := HSZ.out.2.2; unfold maxLen; omega) rfl)
      rw [hpt]
      obtain ⟨z0, z1, z2, z3, z4, z5, z6, z7, z8⟩ := cells9 hZ
      have zz := fun o => frozen_of_block (o := o) hZ
      have hMr : w.heap.size + 1 < wr.heap.size := by omega
      clear hE hZ hO' hG hbw HI hpt HPJ HTA
      generalize (n + 1) + (tysL ts).length = pp at *
      go_wp2_with fail
      obtain ⟨ff, q1, q2, q3⟩ := FIN.out
      exact bodyPost_ret (v := .tuple #[.agg #[.int .i64 13, .string nm, .int .i64 num, .int .i64 j3, .slice p3 m3 d3, .int .i64 j2, .slice p2 m2 d2, .int .i64 lb, .slice av ts.length capv], .int .i64 (pp : Int)]) (by simp [results, Tryd.results125, go_sem, z0, z1, z2, z3, z4, z5, z6, z7, z8]) rfl ⟨_, ff, rfl, by rw [HLN.out]; exact q1, q2, q3⟩

theorem l2With_any (L : List Ty) (hL : ∀ u ∈ L, u.cnt ≤ 1048576) : ∀ t : Tm, WsC L t := Tm.ind fun k nm num ty fr lb ts ih => by
  by_cases h5 : k = 5
  · subst h5
    exact l2With_five L hL nm num ty fr lb ts ih
  by_cases h13 : k = 13
  · subst h13
    exact l2With_thirteen L hL nm num ty fr lb ts ih
  exact l2With_no L hL k h5 h13 nm num ty fr lb ts ih
end Go.Proofs.YtffmpjcjmffdeaaDoor

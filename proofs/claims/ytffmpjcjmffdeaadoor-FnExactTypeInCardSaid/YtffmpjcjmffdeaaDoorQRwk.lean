/- The program's rewriteKids: a node with its operands rewritten, over any change whose rewriting has a contract. -/
import Derived.Test.YtffmpjcjmffdeaaDoorQG20
namespace Go.Proofs.YtffmpjcjmffdeaaDoor
open Go.RowKit

/-- From w to w' only new blocks and, if U names one, that block have been written. -/
def Bo (U : Option Nat) (w w' : World) : Prop := w.grownBy w' U
/-- U names no block from S on. -/
def UL (U : Option Nat) (S : Nat) : Prop := ∀ u, U = some u → u < S
theorem UL.mono {U : Option Nat} {S S' : Nat} (h : UL U S) (hS : S ≤ S') : UL U S' := fun u e => Nat.lt_of_lt_of_le (h u e) hS
theorem UL.ne {U : Option Nat} {S b : Nat} (h : UL U S) (hb : S ≤ b) : some b ≠ U := fun e => by have := h b e.symm; omega

theorem Bo.of_below {U : Option Nat} {w w' : World} (h : Below w.heap.size w w') : Bo U w w' := grown_of_below h _
theorem Bo.size {U : Option Nat} {w w' : World} (h : Bo U w w') : w.heap.size ≤ w'.heap.size := World.grownBy.size h
theorem Bo.trans {U : Option Nat} {a b c : World} (h : Bo U a b) (k : Bo U b c) : Bo U a c :=
  ⟨k.os.trans h.os, k.tape.trans h.tape, k.output.trans h.output, Nat.le_trans h.size k.size, fun i hi hn => (k.block i (Nat.lt_of_lt_of_le hi h.size) hn).trans (h.block i hi hn)⟩
theorem Bo.trans_below {U : Option Nat} {B : Nat} {a b c : World} (h : Bo U a b) (k : Below B b c) (hB : a.heap.size ≤ B) : Bo U a c :=
  ⟨k.os.trans h.os, k.tape.trans h.tape, k.output.trans h.output, Nat.le_trans h.size k.size, fun i hi hn => (k.block i (by omega)).trans (h.block i hi hn)⟩
theorem Bo.put {U : Option Nat} {a b : World} (h : Bo U a b) {M o : Nat} {vs : List Value} (hp : a.heap.size ≤ M) : Bo U a (Go.Proofs.YtffmpjcjmffdeaaDoor.put b M o vs) :=
  h.trans_below (below_put (Below.refl a.heap.size b) hp) (Nat.le_refl _)
theorem Bo.block' {U : Option Nat} {w w' : World} (h : Bo U w w') {M : Nat} {o : Obj} (hM : w.heap[M]? = some o) (hn : some M ≠ U) : w'.heap[M]? = some o :=
  (h.block M (lt_of_block hM) hn).trans hM
theorem Bo.cell {U : Option Nat} {w w' : World} (h : Bo U w w') {b o : Nat} {u : Value} (hc : w.cell? ⟨b, o, none⟩ = some u) (hn : some b ≠ U) : w'.cell? ⟨b, o, none⟩ = some u :=
  (World.grownBy.cell_far h ⟨b, o, none⟩ (World.block_lt_of_cell? _ _ hc) hn).trans hc
theorem Bo.frozen {U : Option Nat} {w w' : World} (h : Bo U w w') {b o : Nat} {c : Bool} (hc : w.frozen? ⟨b, o, none⟩ = c) (hlt : b < w.heap.size) (hn : some b ≠ U) : w'.frozen? ⟨b, o, none⟩ = c :=
  (World.grownBy.frozen_far h ⟨b, o, none⟩ hlt hn).trans hc
theorem Bo.tm {U : Option Nat} {w w' : World} (h : Bo U w w') {t : Tm} {x : Value} {fp : List Nat} (ht : t.At w x fp) (hn : ∀ b ∈ fp, some b ≠ U) : t.At w' x fp :=
  ht.congr fun b hb o => World.grownBy.cell_far h ⟨b, o, none⟩ (ht.lt b hb) (hn b hb)
theorem Bo.sm {U : Option Nat} {w w' : World} (h : Bo U w w') {ts : List Tm} {x : Value} {fp : List Nat} (ht : SmAt w ts x fp) (hn : ∀ b ∈ fp, some b ≠ U) : SmAt w' ts x fp :=
  ht.congr fun b hb o => World.grownBy.cell_far h ⟨b, o, none⟩ (ht.lt b hb) (hn b hb)
theorem Bo.ty {U : Option Nat} {w w' : World} (h : Bo U w w') {t : Ty} {x : Value} {fp : List Nat} (ht : t.At w x fp) (hn : ∀ b ∈ fp, some b ≠ U) : t.At w' x fp :=
  ht.congr fun b hb o => World.grownBy.cell_far h ⟨b, o, none⟩ (ht.lt b hb) (hn b hb)
theorem Bo.fresh {U : Option Nat} {B : Nat} {w w' : World} (h : Bo U w w') {f : List Nat} (hf : Fresh B w f) (hU : UL U B) : Fresh B w' f :=
  ⟨hf.1, fun b hb => ⟨(hf.2 b hb).1, Nat.lt_of_lt_of_le (hf.2 b hb).2.1 h.size, fun o => h.frozen ((hf.2 b hb).2.2 o) (hf.2 b hb).2.1 (hU.ne (hf.2 b hb).1)⟩⟩
theorem Bo.below {w w' : World} (h : Bo none w w') : Below w.heap.size w w' :=
  ⟨h.os, h.tape, h.output, h.size, fun k hk => World.grownBy.block h k hk (by simp)⟩

theorem BuiltM.bo {U : Option Nat} {M : Nat} {T : TypeId} {n : Nat} {ds : List Tm} {fp : List Nat} {w w1 : World} (h : BuiltM M T n ds fp w) (hb : Bo U w w1) (hU : UL U M) : BuiltM M T n ds fp w1 := by
  obtain ⟨C, hM, hC, hn, hl, hf⟩ := h
  have hMl := lt_of_block hM
  refine ⟨C, hb.block' hM (hU.ne (Nat.le_refl _)), hC, hn, hl.congr (fun o => World.grownBy.cell_far hb ⟨M, o, none⟩ hMl (hU.ne (Nat.le_refl _))) (fun b hm o => World.grownBy.cell_far hb ⟨b, o, none⟩ (hl.lt b hm) (show some b ≠ U from hU.ne (by have := hf.ge b hm; omega))), hb.fresh hf (hU.mono (by omega))⟩

theorem BuiltM.stepO {U : Option Nat} {M : Nat} {T : TypeId} {n k : Nat} {ds : List Tm} {t : Tm} {vs : List Value} {f fp : List Nat} {w w1 : World} (h : BuiltM M T n ds fp w) (hk : ds.length = k) (hlt : k < n) (hb : Bo U w w1) (hU : UL U M) (ht : t.At w1 (.agg vs.toArray) f) (hf : Fresh w.heap.size w1 f) :
    BuiltM M T n (ds ++ [t]) (fp ++ f) (put w1 M (k * 9) vs) :=
  (h.bo hb hU).set hk hlt ht hf (let ⟨_, _, _, _, hl, _⟩ := h; hl.lt) (let ⟨_, hB, _⟩ := h; lt_of_block hB)


/-- What the rewriting of a node's operands says. -/
def RkOut (U : Option Nat) (B : Nat) (J : Nat → World → Prop) (w : World) (m : Nat) (u : Tm) (e : Ending) (w' : World) : Prop :=
  ∃ v' f', e = .returned v' ∧ u.At w' v' f' ∧ Fresh B w' f' ∧ Bo U w w' ∧ J m w'

/-- The last stores: the slice of operands into the node's box, the node into the result. -/
theorem rk_fin {U : Option Nat} {S0 B m : Nat} {J : Nat → World → Prop} {w w1 : World} {k : Int} {nm : ByteArray} {num lb : Int} {ty fr : Ty} {ts : List Tm} {s v8 : Value} {g1 g2 f3 : List Nat} {k1 k2 : Int} {n1 n2 c1 c2 : Nat} {a1 a2 : Option Addr} {vs : List Value}
    (hJ : ∀ n w w', J n w → Below S0 w w' → J n w') (hnm : nm.size ≤ 9223372036854775807) (hS0 : S0 ≤ w.heap.size) (hB : B ≤ w.heap.size) (h1 : Ty.At w1 ty (.agg #[.int .i64 k1, .slice a1 n1 c1]) g1) (h2 : Ty.At w1 fr (.agg #[.int .i64 k2, .slice a2 n2 c2]) g2)
    (hg : Fresh B w1 (g1 ++ g2)) (hlt : ∀ b ∈ g1 ++ g2, b < w.heap.size) (hbx : Bo U w w1) (hst : J m w1) (hs : SmAt w1 ts s f3) (hf3 : Fresh (w.heap.size + 1 + 1) w1 f3)
    (hvs : vs = [.int .i64 k, .string nm, .int .i64 num, .int .i64 k1, .slice a1 n1 c1, .int .i64 k2, .slice a2 n2 c2, .int .i64 lb, s]) :
    let W := put (w1.setCell ⟨w.heap.size, 8, none⟩ v8) (w.heap.size + 1) 0 vs
    ∃ f, (Tm.mk k nm num ty fr lb ts).At W (.agg vs.toArray) f ∧ Fresh B W f ∧ Bo U w W ∧ J m W := by
  intro W
  subst hvs
  have lt1 : ∀ b ∈ g1, b < w.heap.size := fun b hb => hlt b (by simp [hb])
  have lt2 : ∀ b ∈ g2, b < w.heap.size := fun b hb => hlt b (by simp [hb])
  have q1 : ty.At W (.agg #[.int .i64 k1, .slice a1 n1 c1]) g1 := (h1.putne (M := w.heap.size) (o := 8) (vs := [v8]) (fun b hb => by have := lt1 b hb; omega)).putne (fun b hb => by have := lt1 b hb; omega)
  have q2 : fr.At W (.agg #[.int .i64 k2, .slice a2 n2 c2]) g2 := (h2.putne (M := w.heap.size) (o := 8) (vs := [v8]) (fun b hb => by have := lt2 b hb; omega)).putne (fun b hb => by have := lt2 b hb; omega)
  have ab : Above (w.heap.size + 1 + 1) w1 W := ((Above.refl (w.heap.size + 1 + 1) w1).setCell (p := ⟨w.heap.size, 8, none⟩) (by simp; omega) v8).put (by omega)
  have hbb : Below w.heap.size w1 W := below_put ((Below.refl w.heap.size w1).setCell (p := ⟨w.heap.size, 8, none⟩) (by simp) v8) (by omega)
  have q3 := hs.above ab hf3.ge
  refine ⟨g1 ++ (g2 ++ f3), Tm.at_mk.2 ⟨_, _, _, _, _, g1, g2, f3, rfl, hnm, q1, q2, rfl, q3⟩, ?_, hbx.trans_below hbb (Nat.le_refl _), hJ _ _ _ hst (hbb.mono hS0)⟩
  have F1 : Fresh B W (g1 ++ g2) := (hg.putne (M := w.heap.size) (o := 8) (vs := [v8]) (fun b hb => by have := hlt b hb; omega)).putne (fun b hb => by have := hlt b hb; omega)
  have F2 := (hf3.above ab (Nat.le_refl _)).mono (B' := B) (by omega)
  rw [← List.append_assoc]
  refine ⟨List.nodup_append.2 ⟨F1.1, F2.1, fun a ha b hb e => ?_⟩, fun b hb => ?_⟩
  · have := hlt a ha
    have := hf3.ge b hb
    omega
  · rcases List.mem_append.1 hb with hb | hb
    · exact F1.2 b hb
    · exact F2.2 b hb

/-- The loop over the operands: what stands behind j rounds. -/
def RkI (U : Option Nat) (B : Nat) (J : Nat → World → Prop) (w : World) (M n : Nat) (us : List Tm) (ty fr : Ty) (nv : Array Value) (v1 v2 : Value) (g1 g2 : List Nat) (j : Nat) (f : List Nat) (wr : World) : Prop :=
  wr.heap[w.heap.size]? = some (.cells nv 35 (0, 0)) ∧ wr.heap[w.heap.size + 1]? = some (Obj.cells #[.int .i64 0, .string ⟨#[]⟩, .int .i64 0, .int .i64 0, .slice none 0 0, .int .i64 0, .slice none 0 0, .int .i64 0, .slice none 0 0] 35) ∧ ty.At wr v1 g1 ∧ fr.At wr v2 g2 ∧ Fresh B wr (g1 ++ g2) ∧ (∀ b ∈ g1 ++ g2, b < w.heap.size) ∧ w.heap.size + 1 < M ∧
    BuiltM M 35 n (us.take j) f wr ∧ Bo U w wr ∧ J j wr

theorem RkI.start {U : Option Nat} {S0 B : Nat} {J : Nat → World → Prop} {w W0 : World} {n : Nat} {us : List Tm} {ty fr : Ty} {nv : Array Value} {v1 v2 : Value} {g1 g2 : List Nat} {Z : Array Value} {o1 o2 : Obj}
    (hJ : ∀ n w w', J n w → Below S0 w w' → J n w') (hS0 : S0 ≤ w.heap.size) (hW : W0 = (w.alloc o1).alloc o2) (ho1 : o1 = .cells nv 35 (0, 0)) (ho2 : o2 = (Obj.cells #[.int .i64 0, .string ⟨#[]⟩, .int .i64 0, .int .i64 0, .slice none 0 0, .int .i64 0, .slice none 0 0, .int .i64 0, .slice none 0 0] 35))
    (h1 : ty.At w v1 g1) (h2 : fr.At w v2 g2) (hg : Fresh B w (g1 ++ g2)) (hst : J 0 w) (hZs : Z.size = n * 9) :
    RkI U B J w (w.heap.size + 1 + 1) n us ty fr nv v1 v2 g1 g2 0 [] (W0.alloc (.cells Z 35)) := by
  subst hW
  have hb : Below w.heap.size w ((w.alloc o1).alloc o2) := ((Below.refl _ _).alloc (Nat.le_refl _) _).alloc (by simp) _
  have hs : ((w.alloc o1).alloc o2).heap.size = w.heap.size + 1 + 1 := by simp
  have hal : Below ((w.alloc o1).alloc o2).heap.size ((w.alloc o1).alloc o2) (((w.alloc o1).alloc o2).alloc (.cells Z 35)) := (Below.refl _ _).alloc (Nat.le_refl _) _
  have hbb := below_trans hb hal
  obtain ⟨a, b⟩ := two_out (w := w) (o1 := o1) (o2 := o2) hal
  subst ho1
  subst ho2
  refine ⟨a, b, h1.below hbb, h2.below hbb, hg.below hbb, fun b hb => (hg.2 b hb).2.1, by omega, ?_, Bo.of_below hbb, hJ _ _ _ hst (hbb.mono hS0)⟩
  rw [List.take_zero]
  exact BuiltM.zero (C := Z) (by rw [← hs]; exact alloc_new _ _) hZs

theorem RkI.step {U : Option Nat} {S0 B : Nat} {J : Nat → World → Prop} {w wr w2 : World} {M n : Nat} {us : List Tm} {u : Tm} {ty fr : Ty} {nv : Array Value} {vs : List Value} {v1 v2 : Value} {g1 g2 f f' : List Nat} {j : Nat}
    (h : RkI U B J w M n us ty fr nv v1 v2 g1 g2 j f wr) (hJ : ∀ n w w', J n w → Below S0 w w' → J n w') (hS0 : S0 ≤ w.heap.size) (hU : UL U S0) (hUB : UL U B) (hj : j < us.length) (hn : us.length = n) (hu : us[j] = u)
    (hat : u.At w2 (.agg vs.toArray) f') (hf : Fresh wr.heap.size w2 f') (hbx : Bo U wr w2) (hst : J (j + 1) w2) :
    RkI U B J w M n us ty fr nv v1 v2 g1 g2 (j + 1) (f ++ f') (put w2 M (j * 9) vs) := by
  obtain ⟨hB', hZ, h1, h2, hg, hlt, hM, hBu, hx, hs⟩ := h
  have ne1 : ∀ b ∈ g1, some b ≠ U := fun b hb => hUB.ne (hg.ge b (by simp [hb]))
  have ne2 : ∀ b ∈ g2, some b ≠ U := fun b hb => hUB.ne (hg.ge b (by simp [hb]))
  have q1 := (hbx.ty h1 ne1).putne (M := M) (o := j * 9) (vs := vs) (fun b hb => by have := hlt b (by simp [hb]); omega)
  have q2 := (hbx.ty h2 ne2).putne (M := M) (o := j * 9) (vs := vs) (fun b hb => by have := hlt b (by simp [hb]); omega)
  have q3 := (hbx.fresh hg hUB).putne (M := M) (o := j * 9) (vs := vs) (fun b hb => by have := hlt b hb; omega)
  refine ⟨(heap_put_ne (by omega)).trans (hbx.block' hB' (hU.ne hS0)), (heap_put_ne (by omega)).trans (hbx.block' hZ (hU.ne (by omega))), q1, q2, q3, hlt, hM, ?_, (hx.trans hbx).put (by omega), ?_⟩
  · rw [take_succM hj, hu]
    exact hBu.stepO (by rw [List.length_take]; omega) (by omega) hbx (hU.mono (by omega)) hat hf
  · exact hJ _ _ _ hst (below_put (Below.refl S0 w2) (by omega))

theorem RkI.done {U : Option Nat} {S0 B : Nat} {J : Nat → World → Prop} {w wr : World} {M n : Nat} {us : List Tm} {ty fr : Ty} {nv : Array Value} {vs : List Value} {v8 : Value} {g1 g2 f : List Nat} {k : Int} {nm : ByteArray} {num lb : Int} {k1 k2 : Int} {n1' n2 c1 c2 : Nat} {a1 a2 : Option Addr}
    (h : RkI U B J w M n us ty fr nv (.agg #[.int .i64 k1, .slice a1 n1' c1]) (.agg #[.int .i64 k2, .slice a2 n2 c2]) g1 g2 n f wr) (hJ : ∀ n w w', J n w → Below S0 w w' → J n w') (hnm : nm.size ≤ 9223372036854775807) (hS0 : S0 ≤ w.heap.size) (hB : B ≤ w.heap.size) (hn : us.length = n) (hmax : n ≤ maxLen)
    (hM2 : w.heap.size + 1 + 1 ≤ M) (hvs : vs = [.int .i64 k, .string nm, .int .i64 num, .int .i64 k1, .slice a1 n1' c1, .int .i64 k2, .slice a2 n2 c2, .int .i64 lb, .slice (some ⟨M, 0, none⟩) n n]) :
    RkOut U B J w n (.mk k nm num ty fr lb us) (.returned (.agg vs.toArray)) (put (wr.setCell ⟨w.heap.size, 8, none⟩ v8) (w.heap.size + 1) 0 vs) := by
  obtain ⟨hB', hZ, h1, h2, hg, hlt, hM, hBu, hx, hs⟩ := h
  obtain ⟨fp, hsm, hfp⟩ := hBu.done (by rw [List.length_take]; omega) hmax
  rw [List.take_of_length_le (by omega)] at hsm
  obtain ⟨ff, z1, z2, z3, z4⟩ := rk_fin (v8 := v8) hJ hnm hS0 hB h1 h2 hg hlt hx hs hsm (hfp.mono hM2) hvs
  exact ⟨_, ff, rfl, z1, z2, z3, z4⟩

end Go.Proofs.YtffmpjcjmffdeaaDoor

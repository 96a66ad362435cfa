/- The program's rewriteKids: a node with its operands rewritten, over any change whose rewriting has a contract. -/
import Derived.Test.YtjpmlmdbldcbjaaDoorQG13
namespace Go.Proofs.YtjpmlmdbldcbjaaDoor
open Go.RowKit

/-- From w to w' only new blocks and, if U names one, that block have been written. -/
def Bo (U : Option Nat) (w w' : World) : Prop := w.grownBy w' U
/-- U names no block from S on. -/
def UL (U : Option Nat) (S : Nat) : Prop := ∀ u, U = some u → u < S
theorem UL.mono {U : Option Nat} {S S' : Nat} (h : UL U S) (hS : S ≤ S') : UL U S' := fun u e => Nat.lt_of_lt_of_le (h u e) hS
theorem UL.ne {U : Option Nat} {S b : Nat} (h : UL U S) (hb : S ≤ b) : some b ≠ U := fun e => by have := h b e.symm; omega

theorem Bo.of_below {U : Option Nat} {w w' : World} (h : Below w.heap.size w w') : Bo U w w' := grown_of_below h _
theorem Bo.size {U : Option Nat} {w w' : World} (h : Bo U w w') : w.heap.size ≤ w'.heap.size := World.grownBy.size h
theorem Bo.trans {U : Option Nat} {a b c : World} (h : Bo U a b) (k : Bo U b c) : Bo U a c :=
  ⟨k.os.trans h.os, k.tape.trans h.tape, k.output.trans h.output, Nat.le_trans h.size k.size, fun i hi hn => (k.block i (Nat.lt_of_lt_of_le hi h.size) hn).trans (h.block i hi hn)⟩
theorem Bo.trans_below {U : Option Nat} {B : Nat} {a b c : World} (h : Bo U a b) (k : Below B b c) (hB : a.heap.size ≤ B) : Bo U a c :=
  ⟨k.os.trans h.os, k.tape.trans h.tape, k.output.trans h.output, Nat.le_trans h.size k.size, fun i hi hn => (k.block i (by omega)).trans (h.block i hi hn)⟩
theorem Bo.put {U : Option Nat} {a b : World} (h : Bo U a b) {M o : Nat} {vs : List Value} (hp : a.heap.size ≤ M) : Bo U a (Go.Proofs.YtjpmlmdbldcbjaaDoor.put b M o vs) :=
  h.trans_below (below_put (Below.refl a.heap.size b) hp) (Nat.le_refl _)
theorem Bo.block' {U : Option Nat} {w w' : World} (h : Bo U w w') {M : Nat} {o : Obj} (hM : w.heap[M]? = some o) (hn : some M ≠ U) : w'.heap[M]? = some o :=
  (h.block M (lt_of_block hM) hn).trans hM
theorem Bo.cell {U : Option Nat} {w w' : World} (h : Bo U w w') {b o : Nat} {u : Value} (hc : w.cell? ⟨b, o, none⟩ = some u) (hn : some b ≠ U) : w'.cell? ⟨b, o, none⟩ = some u :=
  (World.grownBy.cell_far h ⟨b, o, none⟩ (World.block_lt_of_cell? _ _ hc) hn).trans hc
theorem Bo.frozen {U : Option Nat} {w w' : World} (h : Bo U w w') {b o : Nat} {c : Bool} (hc : w.frozen? ⟨b, o, none⟩ = c) (hlt : b < w.heap.size) (hn : some b ≠ U) : w'.frozen? ⟨b, o, none⟩ = c :=
  (World.grownBy.frozen_far h ⟨b, o, none⟩ hlt hn).trans hc
theorem Bo.tm {U : Option Nat} {w w' : World} (h : Bo U w w') {t : Tm} {x : Value} {fp : List Nat} (ht : t.At w x fp) (hn : ∀ b ∈ fp, some b ≠ U) : t.At w' x fp :=
  ht.congr fun b hb o => World.grownBy.cell_far h ⟨b, o, none⟩ (ht.lt b hb) (hn b hb)
theorem Bo.sm {U : Option Nat} {w w' : World} (h : Bo U w w') {ts : List Tm} {x : Value} {fp : List Nat} (ht : SmAt w ts x fp) (hn : ∀ b ∈ fp, some b ≠ U) : SmAt w' ts x fp :=
  ht.congr fun b hb o => World.grownBy.cell_far h ⟨b, o, none⟩ (ht.lt b hb) (hn b hb)
theorem Bo.ty {U : Option Nat} {w w' : World} (h : Bo U w w') {t : Ty} {x : Value} {fp : List Nat} (ht : t.At w x fp) (hn : ∀ b ∈ fp, some b ≠ U) : t.At w' x fp :=
  ht.congr fun b hb o => World.grownBy.cell_far h ⟨b, o, none⟩ (ht.lt b hb) (hn b hb)
theorem Bo.fresh {U : Option Nat} {B : Nat} {w w' : World} (h : Bo U w w') {f : List Nat} (hf : Fresh B w f) (hU : UL U B) : Fresh B w' f :=
  ⟨hf.1, fun b hb => ⟨(hf.2 b hb).1, Nat.lt_of_lt_of_le (hf.2 b hb).2.1 h.size, fun o => h.frozen ((hf.2 b hb).2.2 o) (hf.2 b hb).2.1 (hU.ne (hf.2 b hb).1)⟩⟩
theorem Bo.below {w w' : World} (h : Bo none w w') : Below w.heap.size w w' :=
  ⟨h.os, h.tape, h.output, h.size, fun k hk => World.grownBy.block h k hk (by simp)⟩

theorem BuiltM.bo {U : Option Nat} {M : Nat} {T : TypeId} {n : Nat} {ds : List Tm} {fp : List Nat} {w w1 : World} (h : BuiltM M T n ds fp w) (hb : Bo U w w1) (hU : UL U M) : BuiltM M T n ds fp w1 := by
  obtain ⟨C, hM, hC, hn, hl, hf⟩ := h
  have hMl := lt_of_block hM
  refine ⟨C, hb.block' hM (hU.ne (Nat.le_refl _)), hC, hn, hl.congr (fun o => World.grownBy.cell_far hb ⟨M, o, none⟩ hMl (hU.ne (Nat.le_refl _))) (fun b hm o => World.grownBy.cell_far hb ⟨b, o, none⟩ (hl.lt b hm) (show some b ≠ U from hU.ne (by have := hf.ge b hm; omega))), hb.fresh hf (hU.mono (by omega))⟩

theorem BuiltM.stepO {U : Option Nat} {M : Nat} {T : TypeId} {n k : Nat} {ds : List Tm} {t : Tm} {vs : List Value} {f fp : List Nat} {w w1 : World} (h : BuiltM M T n ds fp w) (hk : ds.length = k) (hlt : k < n) (hb : Bo U w w1) (hU : UL U M) (ht : t.At w1 (.agg vs.toArray) f) (hf : Fresh w.heap.size w1 f) :
    BuiltM M T n (ds ++ [t]) (fp ++ f) (put w1 M (k * 9) vs) :=
  (h.bo hb hU).set hk hlt ht hf (let ⟨_, _, _, _, hl, _⟩ := h; hl.lt) (let ⟨_, hB, _⟩ := h; lt_of_block hB)


/-- What the rewriting of a term says. -/
def RoOut (U : Option Nat) (St : Nat → World → Prop) (w : World) (n' : Nat) (u : Tm) (e : Ending) (w' : World) : Prop :=
  ∃ v' f', e = .returned v' ∧ u.At w' v' f' ∧ Fresh w.heap.size w' f' ∧ Bo U w w' ∧ St n' w'

/-- What the rewriting of a node's operands says. -/
def RkOut (U : Option Nat) (B : Nat) (J : Nat → World → Prop) (w : World) (m : Nat) (u : Tm) (e : Ending) (w' : World) : Prop :=
  ∃ v' f', e = .returned v' ∧ u.At w' v' f' ∧ Fresh B w' f' ∧ Bo U w w' ∧ J m w'

/-- The last stores: the slice of operands into the node's box, the node into the result. -/
theorem rk_fin {U : Option Nat} {S0 B m : Nat} {J : Nat → World → Prop} {w w1 : World} {k : Int} {nm : ByteArray} {num lb : Int} {ty fr : Ty} {ts : List Tm} {s v8 : Value} {g1 g2 f3 : List Nat} {k1 k2 : Int} {n1 n2 c1 c2 : Nat} {a1 a2 : Option Addr} {vs : List Value}
    (hJ : ∀ n w w', J n w → Below S0 w w' → J n w') (hnm : nm.size ≤ 9223372036854775807) (hS0 : S0 ≤ w.heap.size) (hB : B ≤ w.heap.size) (h1 : Ty.At w1 ty (.agg #[.int .i64 k1, .slice a1 n1 c1]) g1) (h2 : Ty.At w1 fr (.agg #[.int .i64 k2, .slice a2 n2 c2]) g2)
    (hg : Fresh B w1 (g1 ++ g2)) (hlt : ∀ b ∈ g1 ++ g2, b < w.heap.size) (hbx : Bo U w w1) (hst : J m w1) (hs : SmAt w1 ts s f3) (hf3 : Fresh (w.heap.size + 1 + 1) w1 f3)
    (hvs : vs = [.int .i64 k, .string nm, .int .i64 num, .int .i64 k1, .slice a1 n1 c1, .int .i64 k2, .slice a2 n2 c2, .int .i64 lb, s]) :
    let W := put (w1.setCell ⟨w.heap.size, 8, none⟩ v8) (w.heap.size + 1) 0 vs
    ∃ f, (Tm.mk k nm num ty fr lb ts).At W (.agg vs.toArray) f ∧ Fresh B W f ∧ Bo U w W ∧ J m W := by
  intro W
  subst hvs
  have lt1 : ∀ b ∈ g1, b < w.heap.size := fun b hb => hlt b (by simp [hb])
  have lt2 : ∀ b ∈ g2, b < w.heap.size := fun b hb => hlt b (by simp [hb])
  have q1 : ty.At W (.agg #[.int .i64 k1, .slice a1 n1 c1]) g1 := (h1.putne (M := w.heap.size) (o := 8) (vs := [v8]) (fun b hb => by have := lt1 b hb; omega)).putne (fun b hb => by have := lt1 b hb; omega)
  have q2 : fr.At W (.agg #[.int .i64 k2, .slice a2 n2 c2]) g2 := (h2.putne (M := w.heap.size) (o := 8) (vs := [v8]) (fun b hb => by have := lt2 b hb; omega)).putne (fun b hb => by have := lt2 b hb; omega)
  have ab : Above (w.heap.size + 1 + 1) w1 W := ((Above.refl (w.heap.size + 1 + 1) w1).setCell (p := ⟨w.heap.size, 8, none⟩) (by simp; omega) v8).put (by omega)
  have hbb : Below w.heap.size w1 W := below_put ((Below.refl w.heap.size w1).setCell (p := ⟨w.heap.size, 8, none⟩) (by simp) v8) (by omega)
  have q3 := hs.above ab hf3.ge
  refine ⟨g1 ++ (g2 ++ f3), Tm.at_mk.2 ⟨_, _, _, _, _, g1, g2, f3, rfl, hnm, q1, q2, rfl, q3⟩, ?_, hbx.trans_below hbb (Nat.le_refl _), hJ _ _ _ hst (hbb.mono hS0)⟩
  have F1 : Fresh B W (g1 ++ g2) := (hg.putne (M := w.heap.size) (o := 8) (vs := [v8]) (fun b hb => by have := hlt b hb; omega)).putne (fun b hb => by have := hlt b hb; omega)
  have F2 := (hf3.above ab (Nat.le_refl _)).mono (B' := B) (by omega)
  rw [← List.append_assoc]
  refine ⟨List.nodup_append.2 ⟨F1.1, F2.1, fun a ha b hb e => ?_⟩, fun b hb => ?_⟩
  · have := hlt a ha
    have := hf3.ge b hb
    omega
  · rcases List.mem_append.1 hb with hb | hb
    · exact F1.2 b hb
    · exact F2.2 b hb

/-- The loop over the operands: what stands behind j rounds. -/
def RkI (U : Option Nat) (B : Nat) (J : Nat → World → Prop) (w : World) (M n : Nat) (us : List Tm) (ty fr : Ty) (nv : Array Value) (v1 v2 : Value) (g1 g2 : List Nat) (j : Nat) (f : List Nat) (wr : World) : Prop :=
  wr.heap[w.heap.size]? = some (.cells nv 34 (0, 0)) ∧ wr.heap[w.heap.size + 1]? = some (Obj.cells #[.int .i64 0, .string ⟨#[]⟩, .int .i64 0, .int .i64 0, .slice none 0 0, .int .i64 0, .slice none 0 0, .int .i64 0, .slice none 0 0] 34) ∧ ty.At wr v1 g1 ∧ fr.At wr v2 g2 ∧ Fresh B wr (g1 ++ g2) ∧ (∀ b ∈ g1 ++ g2, b < w.heap.size) ∧ w.heap.size + 1 < M ∧
    BuiltM M 34 n (us.take j) f wr ∧ Bo U w wr ∧ J j wr

theorem RkI.start {U : Option Nat} {S0 B : Nat} {J : Nat → World → Prop} {w W0 : World} {n : Nat} {us : List Tm} {ty fr : Ty} {nv : Array Value} {v1 v2 : Value} {g1 g2 : List Nat} {Z : Array Value} {o1 o2 : Obj}
    (hJ : ∀ n w w', J n w → Below S0 w w' → J n w') (hS0 : S0 ≤ w.heap.size) (hW : W0 = (w.alloc o1).alloc o2) (ho1 : o1 = .cells nv 34 (0, 0)) (ho2 : o2 = (Obj.cells #[.int .i64 0, .string ⟨#[]⟩, .int .i64 0, .int .i64 0, .slice none 0 0, .int .i64 0, .slice none 0 0, .int .i64 0, .slice none 0 0] 34))
    (h1 : ty.At w v1 g1) (h2 : fr.At w v2 g2) (hg : Fresh B w (g1 ++ g2)) (hst : J 0 w) (hZs : Z.size = n * 9) :
    RkI U B J w (w.heap.size + 1 + 1) n us ty fr nv v1 v2 g1 g2 0 [] (W0.alloc (.cells Z 34)) := by
  subst hW
  have hb : Below w.heap.size w ((w.alloc o1).alloc o2) := ((Below.refl _ _).alloc (Nat.le_refl _) _).alloc (by simp) _
  have hs : ((w.alloc o1).alloc o2).heap.size = w.heap.size + 1 + 1 := by simp
  have hal : Below ((w.alloc o1).alloc o2).heap.size ((w.alloc o1).alloc o2) (((w.alloc o1).alloc o2).alloc (.cells Z 34)) := (Below.refl _ _).alloc (Nat.le_refl _) _
  have hbb := below_trans hb hal
  obtain ⟨a, b⟩ := two_out (w := w) (o1 := o1) (o2 := o2) hal
  subst ho1
  subst ho2
  refine ⟨a, b, h1.below hbb, h2.below hbb, hg.below hbb, fun b hb => (hg.2 b hb).2.1, by omega, ?_, Bo.of_below hbb, hJ _ _ _ hst (hbb.mono hS0)⟩
  rw [List.take_zero]
  exact BuiltM.zero (C := Z) (by rw [← hs]; exact alloc_new _ _) hZs

theorem RkI.step {U : Option Nat} {S0 B : Nat} {J : Nat → World → Prop} {w wr w2 : World} {M n : Nat} {us : List Tm} {u : Tm} {ty fr : Ty} {nv : Array Value} {vs : List Value} {v1 v2 : Value} {g1 g2 f f' : List Nat} {j : Nat}
    (h : RkI U B J w M n us ty fr nv v1 v2 g1 g2 j f wr) (hJ : ∀ n w w', J n w → Below S0 w w' → J n w') (hS0 : S0 ≤ w.heap.size) (hU : UL U S0) (hUB : UL U B) (hj : j < us.length) (hn : us.length = n) (hu : us[j] = u)
    (hat : u.At w2 (.agg vs.toArray) f') (hf : Fresh wr.heap.size w2 f') (hbx : Bo U wr w2) (hst : J (j + 1) w2) :
    RkI U B J w M n us ty fr nv v1 v2 g1 g2 (j + 1) (f ++ f') (put w2 M (j * 9) vs) := by
  obtain ⟨hB', hZ, h1, h2, hg, hlt, hM, hBu, hx, hs⟩ := h
  have ne1 : ∀ b ∈ g1, some b ≠ U := fun b hb => hUB.ne (hg.ge b (by simp [hb]))
  have ne2 : ∀ b ∈ g2, some b ≠ U := fun b hb => hUB.ne (hg.ge b (by simp [hb]))
  have q1 := (hbx.ty h1 ne1).putne (M := M) (o := j * 9) (vs := vs) (fun b hb => by have := hlt b (by simp [hb]); omega)
  have q2 := (hbx.ty h2 ne2).putne (M := M) (o := j * 9) (vs := vs) (fun b hb => by have := hlt b (by simp [hb]); omega)
  have q3 := (hbx.fresh hg hUB).putne (M := M) (o := j * 9) (vs := vs) (fun b hb => by have := hlt b hb; omega)
  refine ⟨(heap_put_ne (by omega)).trans (hbx.block' hB' (hU.ne hS0)), (heap_put_ne (by omega)).trans (hbx.block' hZ (hU.ne (by omega))), q1, q2, q3, hlt, hM, ?_, (hx.trans hbx).put (by omega), ?_⟩
  · rw [take_succM hj, hu]
    exact hBu.stepO (by rw [List.length_take]; omega) (by omega) hbx (hU.mono (by omega)) hat hf
  · exact hJ _ _ _ hst (below_put (Below.refl S0 w2) (by omega))

theorem RkI.done {U : Option Nat} {S0 B : Nat} {J : Nat → World → Prop} {w wr : World} {M n : Nat} {us : List Tm} {ty fr : Ty} {nv : Array Value} {vs : List Value} {v8 : Value} {g1 g2 f : List Nat} {k : Int} {nm : ByteArray} {num lb : Int} {k1 k2 : Int} {n1' n2 c1 c2 : Nat} {a1 a2 : Option Addr}
    (h : RkI U B J w M n us ty fr nv (.agg #[.int .i64 k1, .slice a1 n1' c1]) (.agg #[.int .i64 k2, .slice a2 n2 c2]) g1 g2 n f wr) (hJ : ∀ n w w', J n w → Below S0 w w' → J n w') (hnm : nm.size ≤ 9223372036854775807) (hS0 : S0 ≤ w.heap.size) (hB : B ≤ w.heap.size) (hn : us.length = n) (hmax : n ≤ maxLen)
    (hM2 : w.heap.size + 1 + 1 ≤ M) (hvs : vs = [.int .i64 k, .string nm, .int .i64 num, .int .i64 k1, .slice a1 n1' c1, .int .i64 k2, .slice a2 n2 c2, .int .i64 lb, .slice (some ⟨M, 0, none⟩) n n]) :
    RkOut U B J w n (.mk k nm num ty fr lb us) (.returned (.agg vs.toArray)) (put (wr.setCell ⟨w.heap.size, 8, none⟩ v8) (w.heap.size + 1) 0 vs) := by
  obtain ⟨hB', hZ, h1, h2, hg, hlt, hM, hBu, hx, hs⟩ := h
  obtain ⟨fp, hsm, hfp⟩ := hBu.done (by rw [List.length_take]; omega) hmax
  rw [List.take_of_length_le (by omega)] at hsm
  obtain ⟨ff, z1, z2, z3, z4⟩ := rk_fin (v8 := v8) hJ hnm hS0 hB h1 h2 hg hlt hx hs hsm (hfp.mono hM2) hvs
  exact ⟨_, ff, rfl, z1, z2, z3, z4⟩

set_option maxRecDepth 100000 in
set_option maxHeartbeats 4000000 in
theorem rewriteKids_of (fc : FuncId) (cs : Array Value) (U : Option Nat) (S0 B : Nat) (J : Nat → World → Prop) (hU : UL U S0) (hUB : UL U B) (hJ : ∀ n w w', J n w → Below S0 w w' → J n w')
    (ts us : List Tm) (hlen : us.length = ts.length) (hsz : ts.length ≤ 1048576)
    (ih : ∀ (j : Nat) (h : j < ts.length) (h' : j < us.length) v fp w, ts[j].At w v fp → J j w → S0 ≤ w.heap.size → (∀ b ∈ fp, some b ≠ U) → Calls Tryd.prog 74 #[v, .func (.func fc) #[] cs] w (RoOut U J w (j + 1) us[j]))
    (k : Int) (nm : ByteArray) (num : Int) (ty fr : Ty) (lb : Int) (k1 : Int) (n1 : Nat) (a1 : Option Addr) (c1 : Nat) (k2 : Int) (n2 : Nat) (a2 : Option Addr) (c2 : Nat) (a3 : Option Addr) (c3 : Nat) (g1 g2 f3 : List Nat) (w : World)
    (hnm : nm.size ≤ 9223372036854775807) (h1 : Ty.At w ty (.agg #[.int .i64 k1, .slice a1 n1 c1]) g1) (h2 : Ty.At w fr (.agg #[.int .i64 k2, .slice a2 n2 c2]) g2) (hg : Fresh B w (g1 ++ g2)) (hB : B ≤ w.heap.size) (hs : SmAt w ts (.slice a3 ts.length c3) f3) (hf3 : ∀ b ∈ f3, some b ≠ U) (hj : J 0 w) (hS0 : S0 ≤ w.heap.size) :
    Calls Tryd.prog 61 #[(.agg #[.int .i64 k, .string nm, .int .i64 num, .int .i64 k1, .slice a1 n1 c1, .int .i64 k2, .slice a2 n2 c2, .int .i64 lb, .slice a3 ts.length c3]), .func (.func fc) #[] cs] w (RkOut U B J w ts.length (.mk k nm num ty fr lb us)) := by
  obtain ⟨a, cap, hss, hc, hm, hget⟩ := hs.open
  cases hss
  have hlt0 := hs.lt
  have HIH := hid ih
  have HJ := hid hJ
  have HG := hid hget
  have HNM := hid hnm
  have HS0 := hid hS0
  have HB := hid hB
  have HU := hid (And.intro hU hUB)
  have HLN := hid hlen
  have HSZ := hid hsz
  have hblk : ∀ b o, a3 = some ⟨b, o, none⟩ → 0 < ts.length → b ∈ f3 := fun b o e hp => by
    rcases hs with ⟨h0, _⟩ | ⟨b', o', cap', f, e', _, _, _, _, rfl⟩
    · rw [h0] at hp; simp at hp
    · rw [e] at e'
      cases e'
      simp
  have HBK := hid hblk
  have HF3 := hid hf3
  have HA := hid (And.intro h1 (And.intro h2 (And.intro hg hj)))
  clear hblk ih hJ hget hnm hS0 hB hU hUB hlen hsz hf3 h1 h2 hg hj hs hlt0
  by_cases h0 : ts.length = 0
  · have htn : ts = [] := List.length_eq_zero_iff.1 h0
    subst htn
    have hun : us = [] := List.length_eq_zero_iff.1 HLN.out
    subst hun
    have hb0 : Below w.heap.size w ((w.alloc (Obj.cells #[.int .i64 k, .string nm, .int .i64 num, .int .i64 k1, .slice a1 n1 c1, .int .i64 k2, .slice a2 n2 c2, .int .i64 lb, .slice a3 0 c3] 34)).alloc (Obj.cells #[.int .i64 0, .string ⟨#[]⟩, .int .i64 0, .int .i64 0, .slice none 0 0, .int .i64 0, .slice none 0 0, .int .i64 0, .slice none 0 0] 34)) := ((Below.refl _ _).alloc (Nat.le_refl _) _).alloc (by simp) _
    have FIN := hid (fun (v8 : Value) => (show RkOut U B J w 0 (.mk k nm num ty fr lb []) (.returned (.agg #[.int .i64 k, .string nm, .int .i64 num, .int .i64 k1, .slice a1 n1 c1, .int .i64 k2, .slice a2 n2 c2, .int .i64 lb, .slice none 0 0])) (put ((((w.alloc (Obj.cells #[.int .i64 k, .string nm, .int .i64 num, .int .i64 k1, .slice a1 n1 c1, .int .i64 k2, .slice a2 n2 c2, .int .i64 lb, .slice a3 0 c3] 34)).alloc (Obj.cells #[.int .i64 0, .string ⟨#[]⟩, .int .i64 0, .int .i64 0, .slice none 0 0, .int .i64 0, .slice none 0 0, .int .i64 0, .slice none 0 0] 34))).setCell ⟨w.heap.size, 8, none⟩ v8) (w.heap.size + 1) 0 [.int .i64 k, .string nm, .int .i64 num, .int .i64 k1, .slice a1 n1 c1, .int .i64 k2, .slice a2 n2 c2, .int .i64 lb, .slice none 0 0]) from by
      obtain ⟨ff, z1, z2, z3, z4⟩ := rk_fin (w := w) (w1 := ((w.alloc (Obj.cells #[.int .i64 k, .string nm, .int .i64 num, .int .i64 k1, .slice a1 n1 c1, .int .i64 k2, .slice a2 n2 c2, .int .i64 lb, .slice a3 0 c3] 34)).alloc (Obj.cells #[.int .i64 0, .string ⟨#[]⟩, .int .i64 0, .int .i64 0, .slice none 0 0, .int .i64 0, .slice none 0 0, .int .i64 0, .slice none 0 0] 34))) (U := U) (m := 0) (J := J) (ts := []) (s := .slice none 0 0) (f3 := []) (v8 := v8) (k := k) (nm := nm) (num := num) (lb := lb) HJ.out HNM.out HS0.out HB.out (HA.out.1.below hb0) (HA.out.2.1.below hb0) (HA.out.2.2.1.below hb0) (fun b hb => (HA.out.2.2.1.2 b hb).2.1) (Bo.of_below hb0) (HJ.out _ _ _ HA.out.2.2.2 (hb0.mono HS0.out)) (.inl ⟨rfl, rfl, _, _, rfl⟩) (Fresh.nil _ _) rfl
      exact ⟨_, ff, rfl, z1, z2, z3, z4⟩))
    obtain ⟨hB0, hZ0⟩ := two_out (Below.refl (((w.alloc (Obj.cells #[.int .i64 k, .string nm, .int .i64 num, .int .i64 k1, .slice a1 n1 c1, .int .i64 k2, .slice a2 n2 c2, .int .i64 lb, .slice a3 0 c3] 34)).alloc (Obj.cells #[.int .i64 0, .string ⟨#[]⟩, .int .i64 0, .int .i64 0, .slice none 0 0, .int .i64 0, .slice none 0 0, .int .i64 0, .slice none 0 0] 34))).heap.size ((w.alloc (Obj.cells #[.int .i64 k, .string nm, .int .i64 num, .int .i64 k1, .slice a1 n1 c1, .int .i64 k2, .slice a2 n2 c2, .int .i64 lb, .slice a3 0 c3] 34)).alloc (Obj.cells #[.int .i64 0, .string ⟨#[]⟩, .int .i64 0, .int .i64 0, .slice none 0 0, .int .i64 0, .slice none 0 0, .int .i64 0, .slice none 0 0] 34)))
    obtain ⟨x0, x1, x2, x3, x4, x5, x6, x7, x8⟩ := cells9 hB0
    have HBZ := hid (And.intro hB0 hZ0)
    clear hB0 hZ0 hb0 HA HG HIH hc hm h0
    go_enter Tryd.func61, Tryd.ntmps61
    go_wp2_with fail
    go_loop [17] (fun i => i = .int .i64 0) (fun _ => 0)
    case atStart => rfl
    case round =>
      obtain rfl := hrel
      clear x0 x1 x2 x3 x4 x5 x6 x7 x8
      generalize hW2 : ((w.alloc (Obj.cells #[.int .i64 k, .string nm, .int .i64 num, .int .i64 k1, .slice a1 n1 c1, .int .i64 k2, .slice a2 n2 c2, .int .i64 lb, .slice a3 0 c3] 34)).alloc (Obj.cells #[.int .i64 0, .string ⟨#[]⟩, .int .i64 0, .int .i64 0, .slice none 0 0, .int .i64 0, .slice none 0 0, .int .i64 0, .slice none 0 0] 34)) = W2 at HBZ FIN ⊢
      obtain ⟨x0, x1, x2, x3, x4, x5, x6, x7, x8⟩ := cells9 HBZ.out.1
      obtain ⟨y0, y1, y2, y3, y4, y5, y6, y7, y8⟩ := cells9 HBZ.out.2
      have xz := fun o => frozen_of_block (o := o) HBZ.out.1
      have yz := fun o => frozen_of_block (o := o) HBZ.out.2
      have hM2 : w.heap.size + 1 < W2.heap.size := lt_of_block HBZ.out.2
      clear hW2 HBZ
      have FIN2 := hid (FIN.out (.slice none 0 0))
      simp only [put, Nat.zero_add, Nat.reduceAdd] at FIN2
      clear FIN
      go_wp2_with fail
      exact bodyPost_ret (v := .agg #[.int .i64 k, .string nm, .int .i64 num, .int .i64 k1, .slice a1 n1 c1, .int .i64 k2, .slice a2 n2 c2, .int .i64 lb, .slice none 0 0]) (by simp [results, Tryd.results61, go_sem, y0, y1, y2, y3, y4, y5, y6, y7, y8]) rfl FIN2.out
  · have hpos : 0 < ts.length := by omega
    have hpos' : (0 : Int) < (ts.length : Int) := by omega
    clear h0
    obtain ⟨Z, hZs, hmk⟩ : ∃ Z : Array Value, Z.size = ts.length * 9 ∧ ∀ w : World, (Instr.makeSlice 32 (.int .i64 (ts.length : Int)) (.int .i64 (ts.length : Int))).run Tryd.prog w = .ok (.slice (some ⟨w.heap.size, 0, none⟩) ts.length ts.length) (w.alloc (.cells Z 34)) := by
      have hN := HSZ.out
      obtain ⟨i0, hi, hz0, hz1, hz2⟩ := info_parts (P := Tryd.prog) (e := 34) Tryd.infoTm
      have r := fun w : World => run_make w _ _ i0 _ Tryd.underTms hi hz0 .i64 .i64 (ts.length : Int) (ts.length : Int) (by omega) (by omega) (by rw [hz2]; omega) (by omega)
      simp only [Int.toNat_natCast, hz1] at r
      exact ⟨_, size_madeCells _ _, r⟩
    have HST1 := hid (RkI.start (U := U) (B := B) (n := ts.length) (us := us) (ty := ty) (fr := fr) (nv := #[.int .i64 k, .string nm, .int .i64 num, .int .i64 k1, .slice a1 n1 c1, .int .i64 k2, .slice a2 n2 c2, .int .i64 lb, .slice a3 ts.length c3]) (W0 := ((w.alloc (Obj.cells #[.int .i64 k, .string nm, .int .i64 num, .int .i64 k1, .slice a1 n1 c1, .int .i64 k2, .slice a2 n2 c2, .int .i64 lb, .slice a3 ts.length c3] 34)).alloc (Obj.cells #[.int .i64 0, .string ⟨#[]⟩, .int .i64 0, .int .i64 0, .slice none 0 0, .int .i64 0, .slice none 0 0, .int .i64 0, .slice none 0 0] 34))) HJ.out HS0.out rfl rfl rfl HA.out.1 HA.out.2.1 HA.out.2.2.1 HA.out.2.2.2 hZs)
    obtain ⟨hB0, hZ0⟩ := two_out (Below.refl (((w.alloc (Obj.cells #[.int .i64 k, .string nm, .int .i64 num, .int .i64 k1, .slice a1 n1 c1, .int .i64 k2, .slice a2 n2 c2, .int .i64 lb, .slice a3 ts.length c3] 34)).alloc (Obj.cells #[.int .i64 0, .string ⟨#[]⟩, .int .i64 0, .int .i64 0, .slice none 0 0, .int .i64 0, .slice none 0 0, .int .i64 0, .slice none 0 0] 34))).heap.size ((w.alloc (Obj.cells #[.int .i64 k, .string nm, .int .i64 num, .int .i64 k1, .slice a1 n1 c1, .int .i64 k2, .slice a2 n2 c2, .int .i64 lb, .slice a3 ts.length c3] 34)).alloc (Obj.cells #[.int .i64 0, .string ⟨#[]⟩, .int .i64 0, .int .i64 0, .slice none 0 0, .int .i64 0, .slice none 0 0, .int .i64 0, .slice none 0 0] 34)))
    obtain ⟨x0, x1, x2, x3, x4, x5, x6, x7, x8⟩ := cells9 hB0
    clear hB0 hZ0 HA hZs
    go_enter Tryd.func61, Tryd.ntmps61
    go_wp2_with fail
    go_loopw [17] (fun i wr => ∃ (j : Nat) (f : List Nat), j ≤ ts.length ∧ i = .int .i64 j ∧ RkI U B J w (w.heap.size + 1 + 1) ts.length us ty fr #[.int .i64 k, .string nm, .int .i64 num, .int .i64 k1, .slice a1 n1 c1, .int .i64 k2, .slice a2 n2 c2, .int .i64 lb, .slice a3 ts.length c3] (.agg #[.int .i64 k1, .slice a1 n1 c1]) (.agg #[.int .i64 k2, .slice a2 n2 c2]) g1 g2 j f wr) (fun i _ => ts.length - (intOf i).toNat)
    case atStart => exact ⟨0, [], Nat.zero_le _, rfl, HST1.out⟩
    case round =>
      obtain ⟨j, f, hj, rfl, hI⟩ := hrel
      clear x0 x1 x2 x3 x4 x5 x6 x7 x8
      have hI0 := hI
      obtain ⟨hB, hZ, -, -, -, -, -, hBu, hx, hs⟩ := hI0
      obtain ⟨x0, x1, x2, x3, x4, x5, x6, x7, x8⟩ := cells9 hB
      have xz := fun o => frozen_of_block (o := o) hB
      have HI := hid hI
      have HX := hid hx
      have HS := hid hs
      clear hI hx hs
      by_cases hlk : j < ts.length
      · obtain ⟨b, o, q0, q1, q2, q3, q4, q5, q6, q7, q8, q9, q10, q11, q12, q13, q14, fk, rfl, hblt, c0, c1', c2', c3', c4, c5, c6, c7, c8, hatk, hfk⟩ := HG.out j hlk
        have hbU : some b ≠ U := HF3.out b (HBK.out b o rfl hpos)
        have d0 := HX.out.cell c0 hbU
        have e1 := HX.out.cell c1' hbU
        have e2 := HX.out.cell c2' hbU
        have d3 := HX.out.cell c3' hbU
        have d4 := HX.out.cell c4 hbU
        have d5 := HX.out.cell c5 hbU
        have d6 := HX.out.cell c6 hbU
        have d7 := HX.out.cell c7 hbU
        have d8 := HX.out.cell c8 hbU
        have HATK := hid (HX.out.tm hatk (fun x hx => HF3.out x (hfk x hx)))
        have hS0r : S0 ≤ wr.heap.size := Nat.le_trans HS0.out HX.out.size
        have hlu : j < us.length := by rw [HLN.out]; exact hlk
        have HLU := hid hlu
        have HBU := hid hBu
        clear c0 c1' c2' c3' c4 c5 c6 c7 c8 hatk hB hZ hBu hlu
        go_wp2_with fail
        refine (HIH.out j hlk HLU.out _ _ _ HATK.out HS.out hS0r (fun x hx => HF3.out x (hfk x hx))).mono ?_
        rintro e w2 ⟨v', f', rfl, hat', hf', hbx', hst'⟩
        obtain ⟨r0, r1, r2, r3, r4, r5, r6, r7, r8, r9, r10, r11, r12, r13, r14, rfl⟩ := hat'.agg
        obtain ⟨⟨y0, y1, y2, y3, y4, y5, y6, y7, y8, z0, z1, z2, z3, z4, z5, z6, z7, z8⟩, zz⟩ := (HBU.out.bo hbx' (HU.out.1.mono (by have := HS0.out; omega))).cells hlk (Below.refl _ _)
        have HI2 := hid (HI.out.step (vs := [.int .i64 r0, .string r1, .int .i64 r2, .int .i64 r3, .slice r5 r4 r6, .int .i64 r7, .slice r9 r8 r10, .int .i64 r11, .slice r13 r12 r14]) HJ.out HS0.out HU.out.1 HU.out.2 HLU.out HLN.out rfl hat' hf' hbx' hst')
        clear d0 e1 e2 d3 d4 d5 d6 d7 d8 x0 x1 x2 x3 x4 x5 x6 x7 x8 xz hat' hf' hbx' hst'
        go_wp2_with fail
        exact ⟨⟨j + 1, _, by omega, by go_num, HI2.out⟩, by simp [intOf]; omega⟩
      · obtain rfl : j = ts.length := by omega
        obtain ⟨y0, y1, y2, y3, y4, y5, y6, y7, y8⟩ := cells9 hZ
        have yz := fun o => frozen_of_block (o := o) hZ
        have hMr : w.heap.size + 1 < wr.heap.size := lt_of_block hZ
        have FIN := hid (fun (v8 : Value) => HI.out.done (v8 := v8) (k := k) (nm := nm) (num := num) (lb := lb) (vs := [.int .i64 k, .string nm, .int .i64 num, .int .i64 k1, .slice a1 n1 c1, .int .i64 k2, .slice a2 n2 c2, .int .i64 lb, .slice (some ⟨w.heap.size + 1 + 1, 0, none⟩) ts.length ts.length]) HJ.out HNM.out HS0.out HB.out HLN.out (by have := HSZ.out; unfold maxLen; omega) (Nat.le_refl _) rfl)
        have FIN2 := hid (FIN.out (.slice (some ⟨w.heap.size + 1 + 1, 0, none⟩) ts.length ts.length))
        simp only [put, Nat.zero_add, Nat.reduceAdd] at FIN2
        clear hB hZ hBu HI HX HS FIN
        go_wp2_with fail
        exact bodyPost_ret (v := .agg #[.int .i64 k, .string nm, .int .i64 num, .int .i64 k1, .slice a1 n1 c1, .int .i64 k2, .slice a2 n2 c2, .int .i64 lb, .slice (some ⟨w.heap.size + 1 + 1, 0, none⟩) ts.length ts.length]) (by simp [results, Tryd.results61, go_sem, y0, y1, y2, y3, y4, y5, y6, y7, y8]) rfl FIN2.out
end Go.Proofs.YtjpmlmdbldcbjaaDoor

/- The program's rewriteTerm, over any change of nodes that has a contract. -/
import Derived.Test.YtgekfnodmgkdaaaDoorBx
namespace Go.Proofs.YtgekfnodmgkdaaaDoor
open Go.RowKit

section
variable (nx : Nat → Tm → Nat) (ch : Nat → Tm → Tm ⊕ (Ty × Ty))
mutual
/-- The state behind a term. -/
def rwN : Nat → Tm → Nat
  | n, .mk k nm num ty fr lb ts => match ch n (.mk k nm num ty fr lb ts) with
    | .inl _ => nx n (.mk k nm num ty fr lb ts)
    | .inr _ => rwNL (nx n (.mk k nm num ty fr lb ts)) ts
def rwNL : Nat → List Tm → Nat
  | n, [] => n
  | n, t :: ts => rwNL (rwN n t) ts
end
mutual
/-- The rewritten term. -/
def rwT : Nat → Tm → Tm
  | n, .mk k nm num ty fr lb ts => match ch n (.mk k nm num ty fr lb ts) with
    | .inl u => u
    | .inr x => .mk k nm num x.1 x.2 lb (rwL (nx n (.mk k nm num ty fr lb ts)) ts)
def rwL : Nat → List Tm → List Tm
  | _, [] => []
  | n, t :: ts => rwT n t :: rwL (rwN nx ch n t) ts
end

theorem rwL_len : ∀ (ts : List Tm) (n : Nat), (rwL nx ch n ts).length = ts.length
  | [], _ => by simp only [rwL, List.length_nil]
  | t :: ts, n => by simp only [rwL, List.length_cons, rwL_len ts]

theorem rwNL_take : ∀ (ts : List Tm) (n j : Nat) (h : j < ts.length), rwNL nx ch n (ts.take (j + 1)) = rwN nx ch (rwNL nx ch n (ts.take j)) ts[j]
  | t :: ts, n, 0, _ => by simp [rwNL]
  | t :: ts, n, j + 1, h => by
    simp only [List.take_succ_cons, rwNL, List.getElem_cons_succ]
    exact rwNL_take ts _ j (by simpa using h)

theorem rwL_get : ∀ (ts : List Tm) (n j : Nat) (h : j < ts.length) (h' : j < (rwL nx ch n ts).length), (rwL nx ch n ts)[j] = rwT nx ch (rwNL nx ch n (ts.take j)) ts[j]
  | t :: ts, n, 0, _, _ => by simp [rwL, rwNL]
  | t :: ts, n, j + 1, h, h' => by
    simp only [rwL, List.take_succ_cons, rwNL, List.getElem_cons_succ]
    exact rwL_get ts _ j (by simpa using h) _

theorem rwL_take {ts : List Tm} {n j : Nat} (h : j < ts.length) : (rwL nx ch n ts).take (j + 1) = (rwL nx ch n ts).take j ++ [rwT nx ch (rwNL nx ch n (ts.take j)) ts[j]] := by
  have h' : j < (rwL nx ch n ts).length := by rw [rwL_len]; exact h
  rw [take_succM h', rwL_get nx ch ts n j h h']
end

/-- What the rewriting of a term says. -/
def RwOut (U : Nat) (St : Nat → World → Prop) (w : World) (n' : Nat) (u : Tm) (e : Ending) (w' : World) : Prop :=
  ∃ v' f', e = .returned v' ∧ u.At w' v' f' ∧ Fresh w.heap.size w' f' ∧ Bx U w w' ∧ St n' w'

/-- What a change of a node says. -/
def ChOut (U : Nat) (St : Nat → World → Prop) (w : World) (n' : Nat) (k : Int) (nm : ByteArray) (num lb : Int) (s : Value) (e : Ending) (w' : World) : Tm ⊕ (Ty × Ty) → Prop
  | .inl u => ∃ v f, e = .returned (.tuple #[v, .bool false]) ∧ u.At w' v f ∧ Fresh w.heap.size w' f ∧ Bx U w w' ∧ St n' w'
  | .inr x => ∃ k1 n1 a1 c1 k2 n2 a2 c2 g1 g2, e = .returned (.tuple #[.agg #[.int .i64 k, .string nm, .int .i64 num, .int .i64 k1, .slice a1 n1 c1, .int .i64 k2, .slice a2 n2 c2, .int .i64 lb, s], .bool true]) ∧
      Ty.At w' x.1 (.agg #[.int .i64 k1, .slice a1 n1 c1]) g1 ∧ Ty.At w' x.2 (.agg #[.int .i64 k2, .slice a2 n2 c2]) g2 ∧ Fresh w.heap.size w' (g1 ++ g2) ∧ Bx U w w' ∧ St n' w'

def ChC (fc : FuncId) (cs : Array Value) (U S0 : Nat) (St : Nat → World → Prop) (Pre : Nat → Tm → Prop) (nx : Nat → Tm → Nat) (ch : Nat → Tm → Tm ⊕ (Ty × Ty)) : Prop :=
  ∀ n k nm num ty fr lb ts k1 n1 a1 c1 k2 n2 a2 c2 a3 c3 fp w, (Tm.mk k nm num ty fr lb ts).At w (.agg #[.int .i64 k, .string nm, .int .i64 num, .int .i64 k1, .slice a1 n1 c1, .int .i64 k2, .slice a2 n2 c2, .int .i64 lb, .slice a3 ts.length c3]) fp → Pre n (.mk k nm num ty fr lb ts) → St n w → S0 ≤ w.heap.size → (∀ b ∈ fp, b ≠ U) →
    Calls Tryd.prog fc (#[(.agg #[.int .i64 k, .string nm, .int .i64 num, .int .i64 k1, .slice a1 n1 c1, .int .i64 k2, .slice a2 n2 c2, .int .i64 lb, .slice a3 ts.length c3])] ++ cs) w (fun e w' => ChOut U St w (nx n (.mk k nm num ty fr lb ts)) k nm num lb (.slice a3 ts.length c3) e w' (ch n (.mk k nm num ty fr lb ts)))

def RwC (fc : FuncId) (cs : Array Value) (U S0 : Nat) (St : Nat → World → Prop) (Pre : Nat → Tm → Prop) (nx : Nat → Tm → Nat) (ch : Nat → Tm → Tm ⊕ (Ty × Ty)) (t : Tm) : Prop :=
  ∀ n v fp w, t.At w v fp → Pre n t → St n w → S0 ≤ w.heap.size → (∀ b ∈ fp, b ≠ U) → t.sz ≤ 1048576 →
    Calls Tryd.prog 161 #[v, .func (.func fc) #[] cs] w (RwOut U St w (rwN nx ch n t) (rwT nx ch n t))

theorem boxes_bx {U : Nat} {w w1 : World} {o1 o2 : Obj} (hU : U < w.heap.size) (h : Bx U ((w.alloc o1).alloc o2) w1) : w1.heap[w.heap.size]? = some o1 ∧ w1.heap[w.heap.size + 1]? = some o2 := by
  obtain ⟨a, b⟩ := two_out (Below.refl ((w.alloc o1).alloc o2).heap.size ((w.alloc o1).alloc o2))
  exact ⟨h.block' a (by omega), h.block' b (by omega)⟩

/-- The last stores: into the node's box, its slice of operands, and into the result. -/
theorem rw_fin {S0 U : Nat} {St : Nat → World → Prop} {w w1 : World} {n : Nat} {k : Int} {nm : ByteArray} {num lb : Int} {ty fr : Ty} {ts : List Tm} {s v8 : Value} {g1 g2 f3 : List Nat} {k1 k2 : Int} {n1 n2 c1 c2 : Nat} {a1 a2 : Option Addr} {vs us : List Value}
    (hSt : ∀ n w w', St n w → Below S0 w w' → St n w') (hnm : nm.size ≤ 9223372036854775807) (hS0 : S0 ≤ w.heap.size) (h1 : Ty.At w1 ty (.agg #[.int .i64 k1, .slice a1 n1 c1]) g1) (h2 : Ty.At w1 fr (.agg #[.int .i64 k2, .slice a2 n2 c2]) g2) (hg : Fresh (w.heap.size + 1 + 1) w1 (g1 ++ g2)) (hbx : Bx U w w1) (hst : St n w1)
    (hs : SmAt w1 ts s f3) (hf3 : Fresh (w.heap.size + 1 + 1) w1 f3) (hd : f3 = [] ∨ ∀ b ∈ g1 ++ g2, ∀ c ∈ f3, b < c)
    (hvs : vs = [.int .i64 k, .string nm, .int .i64 num, .int .i64 k1, .slice a1 n1 c1, .int .i64 k2, .slice a2 n2 c2, .int .i64 lb, s]) :
    let W := put ((put w1 w.heap.size 0 us).setCell ⟨w.heap.size, 8, none⟩ v8) (w.heap.size + 1) 0 vs
    ∃ f, (Tm.mk k nm num ty fr lb ts).At W (.agg vs.toArray) f ∧ Fresh w.heap.size W f ∧ Bx U w W ∧ St n W := by
  intro W
  subst hvs
  have ab : Above (w.heap.size + 1 + 1) w1 W := ((((Above.refl (w.heap.size + 1 + 1) w1).put (by omega)).setCell (p := ⟨w.heap.size, 8, none⟩) (by simp; omega) v8).put (by omega))
  have hbb : Below w.heap.size w1 W := below_put ((below_put (Below.refl w.heap.size w1) (Nat.le_refl _)).setCell (p := ⟨w.heap.size, 8, none⟩) (by simp) v8) (by omega)
  have q1 := h1.above ab (fun b hb => hg.ge b (by simp [hb]))
  have q2 := h2.above ab (fun b hb => hg.ge b (by simp [hb]))
  have q3 := hs.above ab hf3.ge
  refine ⟨g1 ++ (g2 ++ f3), Tm.at_mk.2 ⟨_, _, _, _, _, g1, g2, f3, rfl, hnm, q1, q2, rfl, q3⟩, ?_, hbx.trans_below hbb (Nat.le_refl _), hSt _ _ _ hst (hbb.mono hS0)⟩
  have F1 := (hg.above ab (Nat.le_refl _)).mono (B' := w.heap.size) (by omega)
  have F2 := (hf3.above ab (Nat.le_refl _)).mono (B' := w.heap.size) (by omega)
  rw [← List.append_assoc]
  refine ⟨List.nodup_append.2 ⟨F1.1, F2.1, fun a ha b hb e => ?_⟩, fun b hb => ?_⟩
  · rcases hd with rfl | hd
    · cases hb
    · have := hd a ha b hb
      omega
  · rcases List.mem_append.1 hb with hb | hb
    · exact F1.2 b hb
    · exact F2.2 b hb

/-- The loop over the operands: what stands behind j rounds. -/
def RwI (nx : Nat → Tm → Nat) (ch : Nat → Tm → Tm ⊕ (Ty × Ty)) (U : Nat) (St : Nat → World → Prop) (w : World) (M n1 : Nat) (ts : List Tm) (ty fr : Ty) (nv : List Value) (v1 v2 : Value) (g1 g2 : List Nat) (j : Nat) (f : List Nat) (wr : World) : Prop :=
  wr.heap[w.heap.size]? = some (.cells nv.toArray 35 (0, 0)) ∧ wr.heap[w.heap.size + 1]? = some (Obj.cells #[.int .i64 0, .string ByteArray.empty, .int .i64 0, .int .i64 0, .slice none 0 0, .int .i64 0, .slice none 0 0, .int .i64 0, .slice none 0 0] 35) ∧ ty.At wr v1 g1 ∧ fr.At wr v2 g2 ∧ Fresh (w.heap.size + 1 + 1) wr (g1 ++ g2) ∧ (∀ b ∈ g1 ++ g2, b < M) ∧ w.heap.size + 1 < M ∧
    BuiltM M 35 ts.length ((rwL nx ch n1 ts).take j) f wr ∧ Bx U w wr ∧ St (rwNL nx ch n1 (ts.take j)) wr

theorem RwI.start {nx : Nat → Tm → Nat} {ch : Nat → Tm → Tm ⊕ (Ty × Ty)} {U S0 : Nat} {St : Nat → World → Prop} {w w1 : World} {n1 : Nat} {ts : List Tm} {ty fr : Ty} {nv : List Value} {C : Array Value} {v1 v2 : Value} {g1 g2 : List Nat} {Z : Array Value}
    (hSt : ∀ n w w', St n w → Below S0 w w' → St n w') (hS0 : S0 ≤ w.heap.size) (hB : w1.heap[w.heap.size]? = some (.cells C 35 (0, 0))) (hov : putA C 0 nv = nv.toArray) (hZ : w1.heap[w.heap.size + 1]? = some (Obj.cells #[.int .i64 0, .string ByteArray.empty, .int .i64 0, .int .i64 0, .slice none 0 0, .int .i64 0, .slice none 0 0, .int .i64 0, .slice none 0 0] 35))
    (h1 : ty.At w1 v1 g1) (h2 : fr.At w1 v2 g2) (hg : Fresh (w.heap.size + 1 + 1) w1 (g1 ++ g2)) (hbx : Bx U w w1) (hst : St n1 w1) (hZs : Z.size = ts.length * 9) :
    RwI nx ch U St w w1.heap.size n1 ts ty fr nv v1 v2 g1 g2 0 [] ((put w1 w.heap.size 0 nv).alloc (.cells Z 35)) := by
  have hM : w.heap.size + 1 < w1.heap.size := lt_of_block hZ
  have sz : (put w1 w.heap.size 0 nv).heap.size = w1.heap.size := size_put
  have ab := (Above.refl (w.heap.size + 1 + 1) w1).put (vs := nv) (o := 0) (b := w.heap.size) (by omega)
  have hb := below_put (vs := nv) (o := 0) (Below.refl w.heap.size w1) (Nat.le_refl _)
  have hal : Below (put w1 w.heap.size 0 nv).heap.size (put w1 w.heap.size 0 nv) ((put w1 w.heap.size 0 nv).alloc (.cells Z 35)) := (Below.refl _ _).alloc (Nat.le_refl _) _
  refine ⟨blk ((heap_put hB).trans (by rw [hov])) hal, blk ((heap_put_ne (by omega)).trans hZ) hal, (h1.above ab (fun b hb => hg.ge b (by simp [hb]))).below hal, (h2.above ab (fun b hb => hg.ge b (by simp [hb]))).below hal, (hg.above ab (Nat.le_refl _)).below hal, fun b hb => (hg.2 b hb).2.1, hM, ?_, (hbx.trans_below hb (Nat.le_refl _)).alloc _, ?_⟩
  · rw [List.take_zero]
    exact BuiltM.zero (C := Z) (by rw [← sz]; exact alloc_new _ _) hZs
  · rw [List.take_zero]
    simp only [rwNL]
    exact hSt _ _ _ hst ((hb.mono hS0).trans (hal.mono (by rw [sz]; omega)))

theorem RwI.step {nx : Nat → Tm → Nat} {ch : Nat → Tm → Tm ⊕ (Ty × Ty)} {U S0 : Nat} {St : Nat → World → Prop} {w wr w2 : World} {M n1 : Nat} {ts : List Tm} {ty fr : Ty} {nv vs : List Value} {v1 v2 : Value} {g1 g2 f f' : List Nat} {j : Nat}
    (h : RwI nx ch U St w M n1 ts ty fr nv v1 v2 g1 g2 j f wr) (hSt : ∀ n w w', St n w → Below S0 w w' → St n w') (hS0 : S0 ≤ w.heap.size) (hU : U < w.heap.size) (hj : j < ts.length)
    (hat : (rwT nx ch (rwNL nx ch n1 (ts.take j)) ts[j]).At w2 (.agg vs.toArray) f') (hf : Fresh wr.heap.size w2 f') (hbx : Bx U wr w2) (hst : St (rwN nx ch (rwNL nx ch n1 (ts.take j)) ts[j]) w2) :
    RwI nx ch U St w M n1 ts ty fr nv v1 v2 g1 g2 (j + 1) (f ++ f') (put w2 M (j * 9) vs) := by
  obtain ⟨hB, hZ, h1, h2, hg, hlt, hM, hBu, hx, hs⟩ := h
  have ne1 : ∀ b ∈ g1, b ≠ U := fun b hb => by have := hg.ge b (by simp [hb]); omega
  have ne2 : ∀ b ∈ g2, b ≠ U := fun b hb => by have := hg.ge b (by simp [hb]); omega
  have q1 := (hbx.ty h1 ne1).putne (M := M) (o := j * 9) (vs := vs) (fun b hb => by have := hlt b (by simp [hb]); omega)
  have q2 := (hbx.ty h2 ne2).putne (M := M) (o := j * 9) (vs := vs) (fun b hb => by have := hlt b (by simp [hb]); omega)
  have q3 := (hbx.fresh hg (by omega)).putne (M := M) (o := j * 9) (vs := vs) (fun b hb => by have := hlt b hb; omega)
  refine ⟨(heap_put_ne (by omega)).trans (hbx.block' hB (by omega)), (heap_put_ne (by omega)).trans (hbx.block' hZ (by omega)), q1, q2, q3, hlt, hM, ?_, (hx.trans hbx).put (by omega), ?_⟩
  · rw [rwL_take nx ch hj]
    exact hBu.stepX (by rw [List.length_take, rwL_len]; omega) hj hbx (by omega) hat hf
  · rw [rwNL_take nx ch ts n1 j hj]
    exact hSt _ _ _ hst (below_put (Below.refl S0 w2) (by omega))

theorem RwI.done {nx : Nat → Tm → Nat} {ch : Nat → Tm → Tm ⊕ (Ty × Ty)} {U S0 : Nat} {St : Nat → World → Prop} {w wr : World} {M n1 : Nat} {ts : List Tm} {ty fr : Ty} {nv vs : List Value} {v8 : Value} {g1 g2 f : List Nat} {k : Int} {nm : ByteArray} {num lb : Int} {k1 k2 : Int} {n1' n2 c1 c2 : Nat} {a1 a2 : Option Addr}
    (h : RwI nx ch U St w M n1 ts ty fr nv (.agg #[.int .i64 k1, .slice a1 n1' c1]) (.agg #[.int .i64 k2, .slice a2 n2 c2]) g1 g2 ts.length f wr) (hSt : ∀ n w w', St n w → Below S0 w w' → St n w') (hnm : nm.size ≤ 9223372036854775807) (hS0 : S0 ≤ w.heap.size) (hmax : ts.length ≤ maxLen)
    (hvs : vs = [.int .i64 k, .string nm, .int .i64 num, .int .i64 k1, .slice a1 n1' c1, .int .i64 k2, .slice a2 n2 c2, .int .i64 lb, .slice (some ⟨M, 0, none⟩) ts.length ts.length]) :
    let W := put (wr.setCell ⟨w.heap.size, 8, none⟩ v8) (w.heap.size + 1) 0 vs
    ∃ f, (Tm.mk k nm num ty fr lb (rwL nx ch n1 ts)).At W (.agg vs.toArray) f ∧ Fresh w.heap.size W f ∧ Bx U w W ∧ St (rwNL nx ch n1 ts) W := by
  obtain ⟨hB, hZ, h1, h2, hg, hlt, hM, hBu, hx, hs⟩ := h
  obtain ⟨fp, hsm, hfp⟩ := hBu.done (by rw [List.length_take, rwL_len]; omega) hmax
  rw [List.take_of_length_le (by rw [rwL_len]; omega)] at hsm
  rw [List.take_of_length_le (Nat.le_refl _)] at hs
  exact rw_fin (us := []) hSt hnm hS0 h1 h2 hg hx hs hsm (hfp.mono (by omega)) (.inr fun b hb c hc => by have := hlt b hb; have := hfp.ge c hc; omega) hvs

set_option maxRecDepth 100000 in
set_option maxHeartbeats 4000000 in
theorem rewrite_of (fc : FuncId) (cs : Array Value) (U S0 : Nat) (St : Nat → World → Prop) (Pre : Nat → Tm → Prop) (nx : Nat → Tm → Nat) (ch : Nat → Tm → Tm ⊕ (Ty × Ty)) (hfc : CallOkT fc) (hU : U < S0) (hCh : ChC fc cs U S0 St Pre nx ch)
    (hSt : ∀ n w w', St n w → Below S0 w w' → St n w') (k : Int) (nm : ByteArray) (num : Int) (ty fr : Ty) (lb : Int) (ts : List Tm)
    (hPre : ∀ n x, Pre n (.mk k nm num ty fr lb ts) → ch n (.mk k nm num ty fr lb ts) = .inr x → ∀ j (h : j < ts.length), Pre (rwNL nx ch (nx n (.mk k nm num ty fr lb ts)) (ts.take j)) ts[j])
    (ih : ∀ t ∈ ts, RwC fc cs U S0 St Pre nx ch t) : RwC fc cs U S0 St Pre nx ch (.mk k nm num ty fr lb ts) := by
  intro n v fp w hat hpre hst hS0 hfp hsz
  have HIH := hid ih
  have HP := hid (hPre n)
  have HCH := hid hCh
  have HST := hid hSt
  clear ih hPre hCh hSt
  have hat0 := hat
  obtain ⟨k1, n1, a1, c1, k2, n2, a2, c2, a3, c3, f1, f2, f3, rfl, hnm, ht1, ht2, rfl, hs⟩ := hat.parts
  obtain ⟨a, cap, hss, hc, hm, hget⟩ := hs.open
  cases hss
  have hb0 : Below w.heap.size w ((w.alloc (Obj.cells #[.int .i64 k, .string nm, .int .i64 num, .int .i64 k1, .slice a1 n1 c1, .int .i64 k2, .slice a2 n2 c2, .int .i64 lb, .slice a3 ts.length c3] 35)).alloc (Obj.cells #[.int .i64 0, .string ByteArray.empty, .int .i64 0, .int .i64 0, .slice none 0 0, .int .i64 0, .slice none 0 0, .int .i64 0, .slice none 0 0] 35)) := ((Below.refl _ _).alloc (Nat.le_refl _) _).alloc (by simp) _
  have HCALL := hid (HCH.out n k nm num ty fr lb ts k1 n1 a1 c1 k2 n2 a2 c2 a3 c3 _ ((w.alloc (Obj.cells #[.int .i64 k, .string nm, .int .i64 num, .int .i64 k1, .slice a1 n1 c1, .int .i64 k2, .slice a2 n2 c2, .int .i64 lb, .slice a3 ts.length c3] 35)).alloc (Obj.cells #[.int .i64 0, .string ByteArray.empty, .int .i64 0, .int .i64 0, .slice none 0 0, .int .i64 0, .slice none 0 0, .int .i64 0, .slice none 0 0] 35)) (hat0.below hb0) hpre (HST.out _ _ _ hst (hb0.mono hS0)) (by simp; omega) hfp)
  have HPRE := hid hpre
  have HTN := hid (show rwT nx ch n (.mk k nm num ty fr lb ts) = match ch n (.mk k nm num ty fr lb ts) with | .inl u => u | .inr x => .mk k nm num x.1 x.2 lb (rwL nx ch (nx n (.mk k nm num ty fr lb ts)) ts) by rw [rwT])
  have HNN := hid (show rwN nx ch n (.mk k nm num ty fr lb ts) = match ch n (.mk k nm num ty fr lb ts) with | .inl _ => nx n (.mk k nm num ty fr lb ts) | .inr _ => rwNL nx ch (nx n (.mk k nm num ty fr lb ts)) ts by rw [rwN])
  have HSZ := hid (show ts.length + szML ts ≤ 1048576 by simp only [Tm.sz] at hsz; omega)
  have HU := hid (show U < w.heap.size by omega)
  have HG := hid hget
  have HB0 := hid hb0
  have HS0 := hid hS0
  have HFC := hid hfc
  have HNM := hid hnm
  have hblk : ∀ b o, a3 = some ⟨b, o, none⟩ → 0 < ts.length → b ∈ f3 := fun b o e hp => by
    rcases hs with ⟨h0, _⟩ | ⟨b', o', cap', f, e', _, _, _, _, rfl⟩
    · rw [h0] at hp; simp at hp
    · rw [e] at e'
      cases e'
      simp
  have HBK := hid hblk
  clear hblk
  have HF3 := hid (show ∀ b ∈ f3, b ≠ U from fun b hb => hfp b (by simp [hb]))
  have hs0 : (((w.alloc (Obj.cells #[.int .i64 k, .string nm, .int .i64 num, .int .i64 k1, .slice a1 n1 c1, .int .i64 k2, .slice a2 n2 c2, .int .i64 lb, .slice a3 ts.length c3] 35)).alloc (Obj.cells #[.int .i64 0, .string ByteArray.empty, .int .i64 0, .int .i64 0, .slice none 0 0, .int .i64 0, .slice none 0 0, .int .i64 0, .slice none 0 0] 35))).heap.size = w.heap.size + 1 + 1 := by simp
  have HZ0 := hid hs0
  clear hat hat0 ht1 ht2 hs hget hpre hst hsz hfp hb0 hS0 hs0 hfc hnm
  generalize hn1 : nx n (.mk k nm num ty fr lb ts) = nn at *
  cases hch : ch n (.mk k nm num ty fr lb ts) with
  | inl u =>
    rw [hch] at HCALL HTN HNN
    rw [HTN.out, HNN.out]
    clear HTN HNN hch HP HPRE HCH
    have hfc := HFC.out
    unfold CallOkT at hfc
    go_enter Tryd.func161, Tryd.ntmps161
    go_wp2_with fail
    refine HCALL.out.mono ?_
    rintro e w1 ⟨v', f', rfl, hu, hf, hbx, hst1⟩
    obtain ⟨r0, r1, r2, r3, r4, r5, r6, r7, r8, r9, r10, r11, r12, r13, r14, rfl⟩ := hu.agg
    obtain ⟨hB, hZ⟩ := boxes_bx HU.out hbx
    obtain ⟨x0, x1, x2, x3, x4, x5, x6, x7, x8⟩ := cells9 hB
    obtain ⟨y0, y1, y2, y3, y4, y5, y6, y7, y8⟩ := cells9 hZ
    have xz := fun o => frozen_of_block (o := o) hB
    have yz := fun o => frozen_of_block (o := o) hZ
    have hM : w.heap.size + 1 < w1.heap.size := lt_of_block hZ
    rw [HZ0.out] at hf
    have ab : Above (w.heap.size + 1 + 1) w1 (put (put w1 w.heap.size 0 [.int .i64 r0, .string r1, .int .i64 r2, .int .i64 r3, .slice r5 r4 r6, .int .i64 r7, .slice r9 r8 r10, .int .i64 r11, .slice r13 r12 r14]) (w.heap.size + 1) 0 [.int .i64 r0, .string r1, .int .i64 r2, .int .i64 r3, .slice r5 r4 r6, .int .i64 r7, .slice r9 r8 r10, .int .i64 r11, .slice r13 r12 r14]) := ((Above.refl (w.heap.size + 1 + 1) w1).put (by omega)).put (by omega)
    have hbb : Below w.heap.size w1 (put (put w1 w.heap.size 0 [.int .i64 r0, .string r1, .int .i64 r2, .int .i64 r3, .slice r5 r4 r6, .int .i64 r7, .slice r9 r8 r10, .int .i64 r11, .slice r13 r12 r14]) (w.heap.size + 1) 0 [.int .i64 r0, .string r1, .int .i64 r2, .int .i64 r3, .slice r5 r4 r6, .int .i64 r7, .slice r9 r8 r10, .int .i64 r11, .slice r13 r12 r14]) := below_put (below_put (Below.refl w.heap.size w1) (Nat.le_refl _)) (by omega)
    have FIN := hid (show RwOut U St w nn u (.returned (.agg (Array.mk [.int .i64 r0, .string r1, .int .i64 r2, .int .i64 r3, .slice r5 r4 r6, .int .i64 r7, .slice r9 r8 r10, .int .i64 r11, .slice r13 r12 r14]))) (put (put w1 w.heap.size 0 [.int .i64 r0, .string r1, .int .i64 r2, .int .i64 r3, .slice r5 r4 r6, .int .i64 r7, .slice r9 r8 r10, .int .i64 r11, .slice r13 r12 r14]) (w.heap.size + 1) 0 [.int .i64 r0, .string r1, .int .i64 r2, .int .i64 r3, .slice r5 r4 r6, .int .i64 r7, .slice r9 r8 r10, .int .i64 r11, .slice r13 r12 r14]) from ⟨_, f', rfl, hu.above ab hf.ge, (hf.above ab (Nat.le_refl _)).mono (by omega), ((Bx.of_below HB0.out).trans hbx).trans_below hbb (Nat.le_refl _), HST.out _ _ _ hst1 (hbb.mono HS0.out)⟩)
    clear hB hZ hu hf hbx hst1 HB0 HZ0 HCALL HG HIH hc hm hfc ab hbb
    go_wp2_with fail
    exact bodyPost_ret (v := .agg (Array.mk [.int .i64 r0, .string r1, .int .i64 r2, .int .i64 r3, .slice r5 r4 r6, .int .i64 r7, .slice r9 r8 r10, .int .i64 r11, .slice r13 r12 r14])) (by simp [results, Tryd.results161, go_sem, y0, y1, y2, y3, y4, y5, y6, y7, y8]) rfl FIN.out
  | inr x =>
    obtain ⟨ty', fr'⟩ := x
    rw [hch] at HCALL HTN HNN
    have HPK := hid (HP.out _ HPRE.out hch)
    rw [HTN.out, HNN.out]
    clear HTN HNN hch HP HPRE HCH
    have hfc := HFC.out
    unfold CallOkT at hfc
    by_cases h0 : ts.length = 0
    · have htn : ts = [] := List.length_eq_zero_iff.1 h0
      subst htn
      go_enter Tryd.func161, Tryd.ntmps161
      go_wp2_with fail
      refine HCALL.out.mono ?_
      rintro e w1 ⟨j1, m1, p1, d1, j2, m2, p2, d2, g1, g2, rfl, hv1, hv2, hg, hbx, hst1⟩
      obtain ⟨hB, hZ⟩ := boxes_bx HU.out hbx
      obtain ⟨x0, x1, x2, x3, x4, x5, x6, x7, x8⟩ := cells9 hB
      obtain ⟨y0, y1, y2, y3, y4, y5, y6, y7, y8⟩ := cells9 hZ
      have xz := fun o => frozen_of_block (o := o) hB
      have yz := fun o => frozen_of_block (o := o) hZ
      have hM : w.heap.size + 1 < w1.heap.size := lt_of_block hZ
      rw [HZ0.out] at hg
      have FIN := hid (fun (v8 : Value) => rw_fin (S0 := S0) (St := St) (U := U) (w := w) (k := k) (nm := nm) (num := num) (lb := lb) (vs := [.int .i64 k, .string nm, .int .i64 num, .int .i64 j1, .slice p1 m1 d1, .int .i64 j2, .slice p2 m2 d2, .int .i64 lb, .slice none 0 0]) (us := [.int .i64 k, .string nm, .int .i64 num, .int .i64 j1, .slice p1 m1 d1, .int .i64 j2, .slice p2 m2 d2, .int .i64 lb, .slice a3 0 c3]) (ts := []) (s := .slice none 0 0) (f3 := []) (v8 := v8) HST.out HNM.out HS0.out hv1 hv2 (by simpa using hg) ((Bx.of_below HB0.out).trans hbx) hst1 (.inl ⟨rfl, rfl, _, _, rfl⟩) (Fresh.nil _ _) (.inl rfl) rfl)
      have HBZ := hid (And.intro hB hZ)
      clear hB hZ hv1 hv2 hg hbx hst1 HB0 HZ0 HCALL HG HIH HPK hc hm h0 hfc
      go_wp2_with fail
      go_loop [27] (fun i => i = .int .i64 0) (fun _ => 0)
      case atStart => rfl
      case round =>
        obtain rfl := hrel
        clear x0 x1 x2 x3 x4 x5 x6 x7 x8 y0 y1 y2 y3 y4 y5 y6 y7 y8 xz yz hM
        generalize hW2 : (((((((((w1.setCell ⟨w.heap.size, 0, none⟩ (.int .i64 k)).setCell ⟨w.heap.size, 1, none⟩ (.string nm)).setCell ⟨w.heap.size, 2, none⟩ (.int .i64 num)).setCell ⟨w.heap.size, 3, none⟩ (.int .i64 j1)).setCell ⟨w.heap.size, 4, none⟩ (.slice p1 m1 d1)).setCell ⟨w.heap.size, 5, none⟩ (.int .i64 j2)).setCell ⟨w.heap.size, 6, none⟩ (.slice p2 m2 d2)).setCell ⟨w.heap.size, 7, none⟩ (.int .i64 lb)).setCell ⟨w.heap.size, 8, none⟩ (.slice a3 0 c3)) = W2
        have e2 : W2 = put w1 w.heap.size 0 [.int .i64 k, .string nm, .int .i64 num, .int .i64 j1, .slice p1 m1 d1, .int .i64 j2, .slice p2 m2 d2, .int .i64 lb, .slice a3 0 c3] := by rw [← hW2]; simp only [put, Nat.zero_add, Nat.reduceAdd]
        have hB2 : W2.heap[w.heap.size]? = some (.cells (Array.mk [.int .i64 k, .string nm, .int .i64 num, .int .i64 j1, .slice p1 m1 d1, .int .i64 j2, .slice p2 m2 d2, .int .i64 lb, .slice a3 0 c3]) 35 (0, 0)) := by
          rw [e2, heap_put HBZ.out.1]
          simp only [putA, List.setIfInBounds_toArray, List.set]
        have hZ2 : W2.heap[w.heap.size + 1]? = some (Obj.cells #[.int .i64 0, .string ByteArray.empty, .int .i64 0, .int .i64 0, .slice none 0 0, .int .i64 0, .slice none 0 0, .int .i64 0, .slice none 0 0] 35) := by rw [e2, heap_put_ne (by omega)]; exact HBZ.out.2
        obtain ⟨x0, x1, x2, x3, x4, x5, x6, x7, x8⟩ := cells9 hB2
        obtain ⟨y0, y1, y2, y3, y4, y5, y6, y7, y8⟩ := cells9 hZ2
        have xz := fun o => frozen_of_block (o := o) hB2
        have yz := fun o => frozen_of_block (o := o) hZ2
        have hM : w.heap.size + 1 < W2.heap.size := lt_of_block hZ2
        rw [← e2] at FIN
        clear hB2 hZ2 HBZ e2 hW2
        go_wp2_with fail
        obtain ⟨ff, q1, q2, q3, q4⟩ := FIN.out (.slice none 0 0)
        have e0 : rwL nx ch nn [] = [] := by simp only [rwL]
        have e1 : rwNL nx ch nn [] = nn := by simp only [rwNL]
        exact bodyPost_ret (v := .agg #[.int .i64 k, .string nm, .int .i64 num, .int .i64 j1, .slice p1 m1 d1, .int .i64 j2, .slice p2 m2 d2, .int .i64 lb, .slice none 0 0]) (by simp [results, Tryd.results161, go_sem, y0, y1, y2, y3, y4, y5, y6, y7, y8]) rfl ⟨_, ff, rfl, by rw [e0]; exact q1, q2, q3, by rw [e1]; exact q4⟩
    · have hpos : 0 < ts.length := by omega
      have hpos' : (0 : Int) < (ts.length : Int) := by omega
      clear h0
      obtain ⟨Z, hZs, hmk⟩ : ∃ Z : Array Value, Z.size = ts.length * 9 ∧ ∀ w : World, (Instr.makeSlice 33 (.int .i64 (ts.length : Int)) (.int .i64 (ts.length : Int))).run Tryd.prog w = .ok (.slice (some ⟨w.heap.size, 0, none⟩) ts.length ts.length) (w.alloc (.cells Z 35)) := by
        have hN := HSZ.out
        obtain ⟨i0, hi, hz0, hz1, hz2⟩ := info_parts (P := Tryd.prog) (e := 35) Tryd.infoTm
        have r := fun w : World => run_make w _ _ i0 _ Tryd.underTms hi hz0 .i64 .i64 (ts.length : Int) (ts.length : Int) (by omega) (by omega) (by rw [hz2]; omega) (by omega)
        simp only [Int.toNat_natCast, hz1] at r
        exact ⟨_, size_madeCells _ _, r⟩
      have HZZ := hid hZs
      clear hZs
      go_enter Tryd.func161, Tryd.ntmps161
      go_wp2_with fail
      refine HCALL.out.mono ?_
      rintro e w1 ⟨j1, m1, p1, d1, j2, m2, p2, d2, g1, g2, rfl, hv1, hv2, hg, hbx, hst1⟩
      obtain ⟨hB, hZ⟩ := boxes_bx HU.out hbx
      obtain ⟨x0, x1, x2, x3, x4, x5, x6, x7, x8⟩ := cells9 hB
      have xz := fun o => frozen_of_block (o := o) hB
      have hM : w.heap.size + 1 < w1.heap.size := lt_of_block hZ
      rw [HZ0.out] at hg
      have HST1 := hid (RwI.start (nx := nx) (ch := ch) (ts := ts) (nv := [.int .i64 k, .string nm, .int .i64 num, .int .i64 j1, .slice p1 m1 d1, .int .i64 j2, .slice p2 m2 d2, .int .i64 lb, .slice a3 ts.length c3]) HST.out HS0.out hB (by simp only [putA, List.setIfInBounds_toArray, List.set]) hZ hv1 hv2 hg ((Bx.of_below HB0.out).trans hbx) hst1 HZZ.out)
      clear hB hZ hv1 hv2 hg hbx hst1 HB0 HZ0 HCALL hfc
      go_wp2_with fail
      go_loopw [27] (fun i wr => ∃ (j : Nat) (f : List Nat), j ≤ ts.length ∧ i = .int .i64 j ∧ RwI nx ch U St w w1.heap.size nn ts ty' fr' [.int .i64 k, .string nm, .int .i64 num, .int .i64 j1, .slice p1 m1 d1, .int .i64 j2, .slice p2 m2 d2, .int .i64 lb, .slice a3 ts.length c3] (.agg #[.int .i64 j1, .slice p1 m1 d1]) (.agg #[.int .i64 j2, .slice p2 m2 d2]) g1 g2 j f wr) (fun i _ => ts.length - (intOf i).toNat)
      case atStart => exact ⟨0, [], Nat.zero_le _, rfl, HST1.out⟩
      case round =>
        obtain ⟨j, f, hj, rfl, hI⟩ := hrel
        clear x0 x1 x2 x3 x4 x5 x6 x7 x8 xz
        have hI0 := hI
        obtain ⟨hB, hZ, -, -, -, -, -, hBu, hx, hs⟩ := hI0
        obtain ⟨x0, x1, x2, x3, x4, x5, x6, x7, x8⟩ := cells9 hB
        have xz := fun o => frozen_of_block (o := o) hB
        have HI := hid hI
        have HX := hid hx
        have HS := hid hs
        clear hI hx hs
        by_cases hlk : j < ts.length
        · obtain ⟨b, o, q0, q1, q2, q3, q4, q5, q6, q7, q8, q9, q10, q11, q12, q13, q14, fk, rfl, hblt, c0, c1', c2', c3', c4, c5, c6, c7, c8, hatk, hfk⟩ := HG.out j hlk
          have hbU : b ≠ U := HF3.out b (HBK.out b o rfl hpos)
          have d0 := HX.out.cell c0 hbU
          have e1 := HX.out.cell c1' hbU
          have e2 := HX.out.cell c2' hbU
          have d3 := HX.out.cell c3' hbU
          have d4 := HX.out.cell c4 hbU
          have d5 := HX.out.cell c5 hbU
          have d6 := HX.out.cell c6 hbU
          have d7 := HX.out.cell c7 hbU
          have d8 := HX.out.cell c8 hbU
          have HATK := hid (HX.out.tm hatk (fun x hx => HF3.out x (hfk x hx)))
          have hszk : ts[j].sz ≤ 1048576 := by have := HSZ.out; have := sz_mem (List.getElem_mem hlk); omega
          have hS0r : S0 ≤ wr.heap.size := Nat.le_trans HS0.out HX.out.size
          have HBU := hid hBu
          clear c0 c1' c2' c3' c4 c5 c6 c7 c8 hatk hB hZ hBu
          go_wp2_with fail
          refine (HIH.out _ (List.getElem_mem hlk) _ _ _ _ HATK.out (HPK.out j hlk) HS.out hS0r (fun x hx => HF3.out x (hfk x hx)) hszk).mono ?_
          rintro e w2 ⟨v', f', rfl, hat', hf', hbx', hst'⟩
          obtain ⟨r0, r1, r2, r3, r4, r5, r6, r7, r8, r9, r10, r11, r12, r13, r14, rfl⟩ := hat'.agg
          obtain ⟨⟨y0, y1, y2, y3, y4, y5, y6, y7, y8, z0, z1, z2, z3, z4, z5, z6, z7, z8⟩, zz⟩ := (HBU.out.bx hbx' (by have := HU.out; omega)).cells hlk (Below.refl _ _)
          have HI2 := hid (HI.out.step (vs := [.int .i64 r0, .string r1, .int .i64 r2, .int .i64 r3, .slice r5 r4 r6, .int .i64 r7, .slice r9 r8 r10, .int .i64 r11, .slice r13 r12 r14]) HST.out HS0.out HU.out hlk hat' hf' hbx' hst')
          clear d0 e1 e2 d3 d4 d5 d6 d7 d8 x0 x1 x2 x3 x4 x5 x6 x7 x8 xz hat' hf' hbx' hst'
          go_wp2_with fail
          exact ⟨⟨j + 1, _, by omega, by go_num, HI2.out⟩, by simp [intOf]; omega⟩
        · obtain rfl : j = ts.length := by omega
          obtain ⟨y0, y1, y2, y3, y4, y5, y6, y7, y8⟩ := cells9 hZ
          have yz := fun o => frozen_of_block (o := o) hZ
          have hMr : w.heap.size + 1 < wr.heap.size := lt_of_block hZ
          have FIN := hid (fun (v8 : Value) => HI.out.done (v8 := v8) (k := k) (nm := nm) (num := num) (lb := lb) (vs := [.int .i64 k, .string nm, .int .i64 num, .int .i64 j1, .slice p1 m1 d1, .int .i64 j2, .slice p2 m2 d2, .int .i64 lb, .slice (some ⟨w1.heap.size, 0, none⟩) ts.length ts.length]) HST.out HNM.out HS0.out (by unfold maxLen; omega) rfl)
          clear hB hZ hBu HI HX HS
          go_wp2_with fail
          obtain ⟨ff, q1, q2, q3, q4⟩ := FIN.out (.slice (some ⟨w1.heap.size, 0, none⟩) ts.length ts.length)
          exact bodyPost_ret (v := .agg #[.int .i64 k, .string nm, .int .i64 num, .int .i64 j1, .slice p1 m1 d1, .int .i64 j2, .slice p2 m2 d2, .int .i64 lb, .slice (some ⟨w1.heap.size, 0, none⟩) ts.length ts.length]) (by simp [results, Tryd.results161, go_sem, y0, y1, y2, y3, y4, y5, y6, y7, y8]) rfl ⟨_, ff, rfl, q1, q2, q3, q4⟩
end Go.Proofs.YtgekfnodmgkdaaaDoor

/- The program's withEachType. -/
import Derived.Test.YtffmpjcjmffdeaaDoorUWet
namespace Go.Proofs.YtffmpjcjmffdeaaDoor
open Go.RowKit

mutual
/-- A term with the types T n, T (n + 1), .. in place of its own. -/
def wiT (T : Nat → Ty) : Nat → Tm → Tm
  | n, .mk k nm num ty fr lb ts => .mk k nm num (if hasTy k then T n else ty) fr lb (wiL T (if hasTy k then n + 1 else n) ts)
def wiL (T : Nat → Ty) : Nat → List Tm → List Tm
  | _, [] => []
  | n, t :: ts => wiT T n t :: wiL T (n + (tysOf t).length) ts
end

mutual
theorem rwN_wt (T : Nat → Ty) : ∀ (t : Tm) (n : Nat), rwN wtNx (wtCh T) n t = n + (tysOf t).length
  | .mk k nm num ty fr lb ts, n => by
    simp only [rwN, wtCh, wtNx, tysOf, List.length_append]
    rw [rwNL_wt T ts]
    by_cases h : k = 5 ∨ k = 13
    · simp [hasTy, h]; omega
    · simp [hasTy, h]
theorem rwNL_wt (T : Nat → Ty) : ∀ (ts : List Tm) (n : Nat), rwNL wtNx (wtCh T) n ts = n + (tysL ts).length
  | [], n => by simp [rwNL, tysL]
  | t :: ts, n => by
    simp only [rwNL, tysL, List.length_append]
    rw [rwN_wt T t, rwNL_wt T ts]
    omega
end

mutual
theorem rwT_wt (T : Nat → Ty) : ∀ (t : Tm) (n : Nat), rwT wtNx (wtCh T) n t = wiT T n t
  | .mk k nm num ty fr lb ts, n => by
    simp only [rwT, wtCh, wtNx, wiT]
    rw [rwL_wt T ts]
theorem rwL_wt (T : Nat → Ty) : ∀ (ts : List Tm) (n : Nat), rwL wtNx (wtCh T) n ts = wiL T n ts
  | [], n => by simp [rwL, wiL]
  | t :: ts, n => by
    simp only [rwL, wiL]
    rw [rwT_wt T t, rwN_wt T t, rwL_wt T ts]
end

theorem wtPre_kid {T : Nat → Ty} {N n : Nat} {k : Int} {nm : ByteArray} {num : Int} {ty fr : Ty} {lb : Int} {ts : List Tm} (h : WtPre N n (.mk k nm num ty fr lb ts)) (j : Nat) (hj : j < ts.length) :
    WtPre N (rwNL wtNx (wtCh T) (wtNx n (.mk k nm num ty fr lb ts)) (ts.take j)) ts[j] := by
  obtain ⟨⟨d, hd⟩, hN⟩ := h
  refine ⟨(node_of hd).2.2.2.2.2 _ (List.getElem_mem hj), ?_⟩
  rw [rwNL_wt]
  have e1 := congrArg List.length (tysL_take hj)
  have e2 := tysL_take_len ts (j + 1)
  simp only [List.length_append] at e1
  simp only [tysOf, List.length_append] at hN
  simp only [wtNx, hasTy]
  by_cases h : k = 5 ∨ k = 13
  · rw [if_pos h, List.length_cons, List.length_nil] at hN
    simp only [h, decide_true, ↓reduceIte]
    omega
  · rw [if_neg h, List.length_nil] at hN
    simp only [h, decide_false, Bool.false_eq_true, ↓reduceIte]
    omega

theorem rewrite_wt (g : FuncId) (caps : Array Value) (U S0 C N : Nat) (St : Nat → World → Prop) (T : Nat → Ty) (hg : CallOkT g) (hcl : CallOkT 133) (hU : U < S0) (hCS : C < S0) (hSt : ∀ n w w', St n w → Below S0 w w' → St n w')
    (hC : ∀ n w, St n w → w.cell? ⟨C, 0, none⟩ = some (.func (.func g) #[] caps)) (hFm : ∀ n w, St n w → Forms w)
    (hCho : ∀ n k a m c w, St n w → n < N → S0 ≤ w.heap.size → Calls Tryd.prog g (#[.agg #[.int .i64 k, .slice a m c]] ++ caps) w (ChoOut U St w (n + 1) (T n))) :
    ∀ t : Tm, RwC 133 #[.pointer (some ⟨C, 0, none⟩)] U S0 St (WtPre N) wtNx (wtCh T) t :=
  Tm.ind fun k nm num ty fr lb ts ih => rewrite_of _ _ U S0 St _ _ _ hcl hU (wet_any g caps U S0 C N St T hg hU hCS hSt hC hFm hCho) hSt k nm num ty fr lb ts (fun _ _ hp _ j hj => wtPre_kid hp j hj) ih

theorem three_all {w : World} {o1 o2 o3 : Obj} : (((w.alloc o1).alloc o2).alloc o3).heap[w.heap.size]? = some o1 ∧ (((w.alloc o1).alloc o2).alloc o3).heap[w.heap.size + 1]? = some o2 ∧ (((w.alloc o1).alloc o2).alloc o3).heap[w.heap.size + 1 + 1]? = some o3 :=
  three_out (Below.refl _ _)

set_option maxRecDepth 100000 in
set_option maxHeartbeats 2000000 in
theorem withEach_any (g : FuncId) (caps : Array Value) (U S0 N : Nat) (St : Nat → World → Prop) (T : Nat → Ty) (hg : CallOkT g) (hcl : CallOkT 133) (hU : U < S0) (hSt : ∀ n w w', St n w → Below S0 w w' → St n w') (hFm : ∀ n w, St n w → Forms w)
    (hCho : ∀ n k a m c w, St n w → n < N → S0 ≤ w.heap.size → Calls Tryd.prog g (#[.agg #[.int .i64 k, .slice a m c]] ++ caps) w (ChoOut U St w (n + 1) (T n)))
    (t : Tm) (d : Nat) (hsh : shpM d t = true) (hN : (tysOf t).length ≤ N) (v : Value) (fp : List Nat) (w : World) (hat : t.At w v fp) (hst : St 0 w) (hS0 : S0 ≤ w.heap.size) (hfp : ∀ b ∈ fp, b ≠ U) (hsz : t.sz ≤ 1048576) :
    Calls Tryd.prog 81 #[v, .func (.func g) #[] caps] w (RwOut U St w (tysOf t).length (wiT T 0 t)) := by
  have hat0 := hat
  obtain ⟨k, nm, num, k1, n1, a1, c1, k2, n2, a2, c2, lb, n3, a3, c3, rfl⟩ := hat.agg
  have hb0 : Below w.heap.size w (((w.alloc (Obj.cells #[.int .i64 k, .string nm, .int .i64 num, .int .i64 k1, .slice a1 n1 c1, .int .i64 k2, .slice a2 n2 c2, .int .i64 lb, .slice a3 n3 c3] 35)).alloc (Obj.cells #[.func (.func g) #[] caps] 84)).alloc (Obj.cells #[.int .i64 0, .string ByteArray.empty, .int .i64 0, .int .i64 0, .slice none 0 0, .int .i64 0, .slice none 0 0, .int .i64 0, .slice none 0 0] 35)) := (((Below.refl _ _).alloc (Nat.le_refl _) _).alloc (by simp) _).alloc (by simp; omega) _
  obtain ⟨-, hfb, -⟩ := three_all (w := w) (o1 := (Obj.cells #[.int .i64 k, .string nm, .int .i64 num, .int .i64 k1, .slice a1 n1 c1, .int .i64 k2, .slice a2 n2 c2, .int .i64 lb, .slice a3 n3 c3] 35)) (o2 := (Obj.cells #[.func (.func g) #[] caps] 84)) (o3 := (Obj.cells #[.int .i64 0, .string ByteArray.empty, .int .i64 0, .int .i64 0, .slice none 0 0, .int .i64 0, .slice none 0 0, .int .i64 0, .slice none 0 0] 35))
  have hfc : ((((w.alloc (Obj.cells #[.int .i64 k, .string nm, .int .i64 num, .int .i64 k1, .slice a1 n1 c1, .int .i64 k2, .slice a2 n2 c2, .int .i64 lb, .slice a3 n3 c3] 35)).alloc (Obj.cells #[.func (.func g) #[] caps] 84)).alloc (Obj.cells #[.int .i64 0, .string ByteArray.empty, .int .i64 0, .int .i64 0, .slice none 0 0, .int .i64 0, .slice none 0 0, .int .i64 0, .slice none 0 0] 35))).cell? ⟨w.heap.size + 1, 0, none⟩ = some (.func (.func g) #[] caps) := by rw [cell_of_block hfb]; rfl
  have hsz0 : ((((w.alloc (Obj.cells #[.int .i64 k, .string nm, .int .i64 num, .int .i64 k1, .slice a1 n1 c1, .int .i64 k2, .slice a2 n2 c2, .int .i64 lb, .slice a3 n3 c3] 35)).alloc (Obj.cells #[.func (.func g) #[] caps] 84)).alloc (Obj.cells #[.int .i64 0, .string ByteArray.empty, .int .i64 0, .int .i64 0, .slice none 0 0, .int .i64 0, .slice none 0 0, .int .i64 0, .slice none 0 0] 35))).heap.size = w.heap.size + 1 + 1 + 1 := by simp
  have HRW := hid (rewrite_wt g caps U (w.heap.size + 1 + 1) (w.heap.size + 1) N (fun n w' => St n w' ∧ w'.cell? ⟨w.heap.size + 1, 0, none⟩ = some (.func (.func g) #[] caps)) T hg hcl (by omega) (by omega)
    (fun n w1 w2 h hb => ⟨hSt n w1 w2 h.1 (hb.mono (by omega)), (hb.cell (p := ⟨w.heap.size + 1, 0, none⟩) (by simp)).trans h.2⟩) (fun n w1 h => h.2) (fun n w1 h => hFm n w1 h.1)
    (fun n k a m c w1 h hn hs => (hCho n k a m c w1 h.1 hn (by omega)).mono fun e w2 ⟨k', m', a', c', f, he, hat, hf, hbx, hs2⟩ => ⟨k', m', a', c', f, he, hat, hf, hbx, hs2, hbx.cell h.2 (by omega)⟩)
    t 0 _ fp _ (hat0.below hb0) ⟨⟨d, hsh⟩, by omega⟩ ⟨hSt _ _ _ hst (hb0.mono hS0), hfc⟩ (by rw [hsz0]; omega) hfp hsz)
  rw [rwN_wt, rwT_wt, Nat.zero_add] at HRW
  have HST := hid hSt
  have HB0 := hid hb0
  have HS0 := hid hS0
  have HU := hid (show U < w.heap.size by omega)
  have HZ0 := hid hsz0
  clear hat hat0 hb0 hS0 hCho hFm hSt hst hfp hfb hfc hsz0 hsh hN hcl hg
  generalize wiT T 0 t = u at *
  generalize (tysOf t).length = nn at *
  go_enter Tryd.func81, Tryd.ntmps81
  go_wp2_with fail
  refine HRW.out.mono ?_
  rintro e w1 ⟨v', f', rfl, hu, hf, hbx, hst1⟩
  obtain ⟨r0, r1, r2, r3, r4, r5, r6, r7, r8, r9, r10, r11, r12, r13, r14, rfl⟩ := hu.agg
  obtain ⟨hB, hF, hZ⟩ := three_all (w := w) (o1 := (Obj.cells #[.int .i64 k, .string nm, .int .i64 num, .int .i64 k1, .slice a1 n1 c1, .int .i64 k2, .slice a2 n2 c2, .int .i64 lb, .slice a3 n3 c3] 35)) (o2 := (Obj.cells #[.func (.func g) #[] caps] 84)) (o3 := (Obj.cells #[.int .i64 0, .string ByteArray.empty, .int .i64 0, .int .i64 0, .slice none 0 0, .int .i64 0, .slice none 0 0, .int .i64 0, .slice none 0 0] 35))
  have hUl := HU.out
  replace hZ := hbx.block' hZ (by omega)
  obtain ⟨y0, y1, y2, y3, y4, y5, y6, y7, y8⟩ := cells9 hZ
  have yz := fun o => frozen_of_block (o := o) hZ
  have hM : w.heap.size + 1 + 1 < w1.heap.size := lt_of_block hZ
  rw [HZ0.out] at hf
  have ab : Above (w.heap.size + 1 + 1 + 1) w1 (put w1 (w.heap.size + 1 + 1) 0 [.int .i64 r0, .string r1, .int .i64 r2, .int .i64 r3, .slice r5 r4 r6, .int .i64 r7, .slice r9 r8 r10, .int .i64 r11, .slice r13 r12 r14]) := (Above.refl _ _).put (by omega)
  have hbb : Below w.heap.size w1 (put w1 (w.heap.size + 1 + 1) 0 [.int .i64 r0, .string r1, .int .i64 r2, .int .i64 r3, .slice r5 r4 r6, .int .i64 r7, .slice r9 r8 r10, .int .i64 r11, .slice r13 r12 r14]) := below_put (Below.refl _ _) (by omega)
  have FIN := hid (show RwOut U St w nn u (.returned (.agg (Array.mk [.int .i64 r0, .string r1, .int .i64 r2, .int .i64 r3, .slice r5 r4 r6, .int .i64 r7, .slice r9 r8 r10, .int .i64 r11, .slice r13 r12 r14]))) (put w1 (w.heap.size + 1 + 1) 0 [.int .i64 r0, .string r1, .int .i64 r2, .int .i64 r3, .slice r5 r4 r6, .int .i64 r7, .slice r9 r8 r10, .int .i64 r11, .slice r13 r12 r14]) from ⟨_, f', rfl, hu.above ab hf.ge, (hf.above ab (Nat.le_refl _)).mono (by omega), ((Bx.of_below HB0.out).trans hbx).trans_below hbb (Nat.le_refl _), HST.out _ _ _ hst1.1 (hbb.mono HS0.out)⟩)
  clear hB hF hZ hu hf hbx hst1 ab hbb HRW
  go_wp2_with fail
  exact bodyPost_ret (v := .agg (Array.mk [.int .i64 r0, .string r1, .int .i64 r2, .int .i64 r3, .slice r5 r4 r6, .int .i64 r7, .slice r9 r8 r10, .int .i64 r11, .slice r13 r12 r14])) (by simp [results, Tryd.results81, go_sem, y0, y1, y2, y3, y4, y5, y6, y7, y8]) rfl FIN.out
end Go.Proofs.YtffmpjcjmffdeaaDoor

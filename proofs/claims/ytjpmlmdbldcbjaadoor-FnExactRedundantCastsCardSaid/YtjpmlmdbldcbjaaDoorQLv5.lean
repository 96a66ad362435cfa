/- The program's rewriteByRules, over any list of rules that have contracts. -/
import Derived.Test.YtjpmlmdbldcbjaaDoorQLv4
namespace Go.Proofs.YtjpmlmdbldcbjaaDoor
open Go.RowKit

/-- The variable of block Q holds the list of rules, which lie in block R. -/
def RlSt (fs : List FuncId) (Q R : Nat) (_ : Nat) (w : World) : Prop := w.heap[Q]? = some (Obj.cells #[.slice (some ⟨R, 0, none⟩) fs.length fs.length] 62) ∧ w.heap[R]? = some (Obj.cells (fs.map fun f => Value.func (.func f) #[] #[]).toArray 63)
theorem RlSt.below {fs : List FuncId} {Q R S : Nat} (hQ : Q < S) (hR : R < S) : ∀ n w w', RlSt fs Q R n w → Below S w w' → RlSt fs Q R n w' := fun _ _ _ h hb => ⟨(hb.block _ hQ).trans h.1, (hb.block _ hR).trans h.2⟩

theorem fst_drop {rs : List (Tm → Option Tm)} {j : Nat} (h : j < rs.length) (t : Tm) : fstR (rs.drop j) t = match rs[j] t with | some u => u | none => fstR (rs.drop (j + 1)) t := by
  rw [List.drop_eq_getElem_cons h]
  simp only [fstR]
  cases rs[j] t <;> rfl

theorem lf_close {St : Nat → World → Prop} {B S0 M n : Nat} {w w1 : World} {u : Tm} {vs : List Value} {g : List Nat} (h1 : u.At w1 (.agg vs.toArray) g) (h2 : Fresh B w1 g) (h3 : ∀ x ∈ g, x ≠ M) (hb : Below w.heap.size w w1) (hM : w.heap.size ≤ M) (hS : ∀ n w w', St n w → Below S0 w w' → St n w') (hS0 : S0 ≤ w.heap.size) (hst : St n w) :
    LfOut none St B w n u (.returned (.agg (Array.mk vs))) (put w1 M 0 vs) :=
  ⟨_, g, rfl, h1.congr fun x hx o => World.cell?_of_block (w := w1) (a := ⟨x, o, none⟩) (heap_put_ne (h3 x hx)), h2.putne h3, Bo.of_below (below_put hb hM), hS _ _ _ hst ((below_put hb hM).mono hS0)⟩

set_option linter.unusedVariables false in
set_option linter.unusedSimpArgs false in
set_option maxRecDepth 100000 in
set_option maxHeartbeats 4000000 in
theorem rules_lf (fs : List FuncId) (rs : List (Tm → Option Tm)) (Q R S0 : Nat) (hQ : Q < S0) (hR : R < S0) (hlen : rs.length = fs.length) (hfs : fs.length ≤ 100) (hru : ∀ j (h : j < fs.length) (h' : j < rs.length), RuC fs[j] rs[j]) :
    LfC 52 #[.pointer (some ⟨Q, 0, none⟩)] none S0 (RlSt fs Q R) nxI (chR rs) := by
  intro n t v fp B w hat hf hSB hBw hg hn hst
  obtain ⟨e0, e1, e2, e3, e4, e5, e6, e7, e8, e9, e10, e11, e12, e13, e14, rfl⟩ := hat.agg
  have hlt := hat.lt
  have hb0 : Below w.heap.size w ((w.alloc (Obj.cells #[.int .i64 e0, .string e1, .int .i64 e2, .int .i64 e3, .slice e5 e4 e6, .int .i64 e7, .slice e9 e8 e10, .int .i64 e11, .slice e13 e12 e14] 34)).alloc (Obj.cells #[.int .i64 0, .string ⟨#[]⟩, .int .i64 0, .int .i64 0, .slice none 0 0, .int .i64 0, .slice none 0 0, .int .i64 0, .slice none 0 0] 34)) := ((Below.refl _ _).alloc (Nat.le_refl _) _).alloc (by simp) _
  have hs0 : ((w.alloc (Obj.cells #[.int .i64 e0, .string e1, .int .i64 e2, .int .i64 e3, .slice e5 e4 e6, .int .i64 e7, .slice e9 e8 e10, .int .i64 e11, .slice e13 e12 e14] 34)).alloc (Obj.cells #[.int .i64 0, .string ⟨#[]⟩, .int .i64 0, .int .i64 0, .slice none 0 0, .int .i64 0, .slice none 0 0, .int .i64 0, .slice none 0 0] 34)).heap.size = w.heap.size + 1 + 1 := by simp
  obtain ⟨hB0, hZ0⟩ := two_out (Below.refl ((w.alloc (Obj.cells #[.int .i64 e0, .string e1, .int .i64 e2, .int .i64 e3, .slice e5 e4 e6, .int .i64 e7, .slice e9 e8 e10, .int .i64 e11, .slice e13 e12 e14] 34)).alloc (Obj.cells #[.int .i64 0, .string ⟨#[]⟩, .int .i64 0, .int .i64 0, .slice none 0 0, .int .i64 0, .slice none 0 0, .int .i64 0, .slice none 0 0] 34)).heap.size ((w.alloc (Obj.cells #[.int .i64 e0, .string e1, .int .i64 e2, .int .i64 e3, .slice e5 e4 e6, .int .i64 e7, .slice e9 e8 e10, .int .i64 e11, .slice e13 e12 e14] 34)).alloc (Obj.cells #[.int .i64 0, .string ⟨#[]⟩, .int .i64 0, .int .i64 0, .slice none 0 0, .int .i64 0, .slice none 0 0, .int .i64 0, .slice none 0 0] 34)))
  have hSt := RlSt.below (fs := fs) hQ hR
  have HST := hid hSt
  have HST0 := hid hst
  have hs1 := hSt _ _ _ hst (hb0.mono (by omega))
  have HC := hid (fun (W : World) (hW : Below w.heap.size w W) (j : Nat) (h : j < fs.length) => (show W.cell? ⟨R, j, none⟩ = some (Value.func (.func fs[j]) #[] #[]) from by
    have := (hSt _ _ _ hst (hW.mono (by omega))).2
    rw [cell_of_block this]
    simp [h]))
  have HQ := hid (fun (W : World) (hW : Below w.heap.size w W) => (show W.cell? ⟨Q, 0, none⟩ = some (.slice (some ⟨R, 0, none⟩) fs.length fs.length) from by
    have := (hSt _ _ _ hst (hW.mono (by omega))).1
    rw [cell_of_block this]; rfl))
  have HAT := hid hat
  have HF := hid hf
  have HLT := hid hlt
  have HRU := hid hru
  have HLEN := hid hlen
  have HGD := hid hg
  have HSB := hid (And.intro hSB (And.intro hBw (And.intro hQ hR)))
  have HB0 := hid (And.intro hb0 hs0)
  have HKK := hid (And.intro hB0 hZ0)
  have HCH := hid (show chR rs n t = fstR (rs.drop 0) t from rfl)
  have HNX := hid (show nxI n (kdM t) = n from rfl)
  generalize chR rs n t = EE at *
  generalize nxI n (kdM t) = nn at *
  clear hat hf hst hs1 hSt hru hg hB0 hZ0 hSB hBw hQ hR hlen hlt hb0 hs0
  go_enter Tryd.func52, Tryd.ntmps52
  go_upto_region 1 with (fail)
  generalize ((w.alloc (Obj.cells #[.int .i64 e0, .string e1, .int .i64 e2, .int .i64 e3, .slice e5 e4 e6, .int .i64 e7, .slice e9 e8 e10, .int .i64 e11, .slice e13 e12 e14] 34)).alloc (Obj.cells #[.int .i64 0, .string ⟨#[]⟩, .int .i64 0, .int .i64 0, .slice none 0 0, .int .i64 0, .slice none 0 0, .int .i64 0, .slice none 0 0] 34)) = W1 at HB0 HKK ⊢
  obtain ⟨x0, x1, x2, x3, x4, x5, x6, x7, x8⟩ := cells9 HKK.out.1
  have xq := HQ.out _ HB0.out.1
  go_wp2_with fail
  go_loopw [10] (fun i wr => ∃ (j : Nat), j ≤ fs.length ∧ i = .int .i64 j ∧ EE = fstR (rs.drop j) t ∧ Below W1.heap.size W1 wr) (fun i _ => fs.length - (intOf i).toNat)
  case atStart => exact ⟨0, Nat.zero_le _, rfl, HCH.out, Below.refl _ _⟩
  case round =>
    obtain ⟨j, hj, rfl, hee, hbr⟩ := hrel
    have HEE := hid hee
    have HBR := hid hbr
    have hB := blk HKK.out.1 hbr
    have hZ := blk HKK.out.2 hbr
    have hbw := below_trans HB0.out.1 hbr
    have HBW := hid hbw
    clear x0 x1 x2 x3 x4 x5 x6 x7 x8 xq hee hbr
    obtain ⟨x0, x1, x2, x3, x4, x5, x6, x7, x8⟩ := cells9 hB
    by_cases hlk : j < fs.length
    · have hlr : j < rs.length := by rw [HLEN.out]; exact hlk
      have hcj := HC.out _ hbw j hlk
      have hfc := (HRU.out j hlk hlr).1
      unfold CallOkT at hfc
      have HCL := hid ((HRU.out j hlk hlr).2 t _ fp B wr (HAT.out.below hbw) (HF.out.below hbw) (Nat.le_trans HSB.out.2.1 hbw.size) HGD.out)
      have HDR := hid (fst_drop hlr t)
      generalize rs[j] t = oo at *
      generalize fs[j] = fj at *
      clear hbw hB
      go_wp2_with fail
      refine HCL.out.mono ?_
      rintro e w2 ⟨v2, f2, rfl, hu2, hf2, hin2, hb2⟩
      obtain ⟨r0, r1, r2, r3, r4, r5, r6, r7, r8, r9, r10, r11, r12, r13, r14, rfl⟩ := hu2.agg
      have hZ2 := blk hZ hb2
      have hbw2 := below_trans HBW.out hb2
      have hal : Below w2.heap.size w2 (w2.alloc (Obj.cells #[.int .i64 r0, .string r1, .int .i64 r2, .int .i64 r3, .slice r5 r4 r6, .int .i64 r7, .slice r9 r8 r10, .int .i64 r11, .slice r13 r12 r14] 34)) := (Below.refl _ _).alloc (Nat.le_refl _) _
      have HF2 := hid (And.intro (hu2.below hal) (And.intro (hf2.below hal) (And.intro (blk hZ2 hal) (And.intro (alloc_new w2 (Obj.cells #[.int .i64 r0, .string r1, .int .i64 r2, .int .i64 r3, .slice r5 r4 r6, .int .i64 r7, .slice r9 r8 r10, .int .i64 r11, .slice r13 r12 r14] 34)) (And.intro (below_trans hbw2 hal) (below_trans (below_trans HBR.out hb2) hal))))))
      clear x0 x1 x2 x3 x4 x5 x6 x7 x8 hcj hfc hu2 hf2 hb2 hZ2 hbw2 hal hZ HCL
      go_upto_region 5 with (fail)
      generalize hW3 : w2.alloc (Obj.cells #[.int .i64 r0, .string r1, .int .i64 r2, .int .i64 r3, .slice r5 r4 r6, .int .i64 r7, .slice r9 r8 r10, .int .i64 r11, .slice r13 r12 r14] 34) = W3 at HF2 ⊢
      clear hW3
      obtain ⟨u0, u1, u2, u3, u4, u5, u6, u7, u8⟩ := cells9 HF2.out.2.2.2.1
      obtain ⟨y0, y1, y2, y3, y4, y5, y6, y7, y8⟩ := cells9 HF2.out.2.2.1
      have yz := fun o => frozen_of_block (o := o) HF2.out.2.2.1
      have hM := lt_of_block HF2.out.2.2.1
      cases oo with
      | none =>
        have HEE2 := hid (HEE.out.trans HDR.out)
        go_wp2_with fail
        exact ⟨⟨j + 1, by omega, by go_num, HEE2.out, HF2.out.2.2.2.2.2⟩, by simp [intOf]; omega⟩
      | some u =>
        obtain rfl : EE = u := HEE.out.trans HDR.out
        have hne : ∀ x ∈ f2, x ≠ w.heap.size + 1 := fun x hx => by
          have hw1 := HB0.out.2
          rcases hin2 x hx with h | h
          · have := HLT.out x h; omega
          · have := HBR.out.size; omega
        have FIN := hid (lf_close (B := B) (M := w.heap.size + 1) (vs := [.int .i64 r0, .string r1, .int .i64 r2, .int .i64 r3, .slice r5 r4 r6, .int .i64 r7, .slice r9 r8 r10, .int .i64 r11, .slice r13 r12 r14]) HF2.out.1 HF2.out.2.1 hne HF2.out.2.2.2.2.1 (by omega) HST.out (Nat.le_trans HSB.out.1 HSB.out.2.1) (show RlSt fs Q R nn w from HST0.out))
        simp only [put, Nat.zero_add, Nat.reduceAdd] at FIN
        go_wp2_with fail
        exact bodyPost_ret (v := .agg (Array.mk [.int .i64 r0, .string r1, .int .i64 r2, .int .i64 r3, .slice r5 r4 r6, .int .i64 r7, .slice r9 r8 r10, .int .i64 r11, .slice r13 r12 r14])) (by simp [results, Tryd.results52, go_sem, y0, y1, y2, y3, y4, y5, y6, y7, y8]) rfl FIN.out
    · obtain rfl : j = fs.length := by omega
      obtain rfl : EE = t := by
        rw [HEE.out, ← HLEN.out, List.drop_length]
        rfl
      obtain ⟨y0, y1, y2, y3, y4, y5, y6, y7, y8⟩ := cells9 hZ
      have yz := fun o => frozen_of_block (o := o) hZ
      have hM := lt_of_block hZ
      have FIN := hid (lf_close (B := B) (M := w.heap.size + 1) (vs := [.int .i64 e0, .string e1, .int .i64 e2, .int .i64 e3, .slice e5 e4 e6, .int .i64 e7, .slice e9 e8 e10, .int .i64 e11, .slice e13 e12 e14]) (HAT.out.below hbw) (HF.out.below hbw) (fun x hx => by have := HLT.out x hx; omega) hbw (by omega) HST.out (Nat.le_trans HSB.out.1 HSB.out.2.1) (show RlSt fs Q R nn w from HST0.out))
      simp only [put, Nat.zero_add, Nat.reduceAdd] at FIN
      clear hbw hB hZ
      go_wp2_with fail
      exact bodyPost_ret (v := .agg (Array.mk [.int .i64 e0, .string e1, .int .i64 e2, .int .i64 e3, .slice e5 e4 e6, .int .i64 e7, .slice e9 e8 e10, .int .i64 e11, .slice e13 e12 e14])) (by simp [results, Tryd.results52, go_sem, y0, y1, y2, y3, y4, y5, y6, y7, y8]) rfl FIN.out

theorem callOk_ru : CallOkT 52 := fun _ _ => by kernel_rfl

set_option linter.unusedVariables false in
set_option linter.unusedSimpArgs false in
set_option maxRecDepth 100000 in
set_option maxHeartbeats 4000000 in
theorem byRules_any (fs : List FuncId) (rs : List (Tm → Option Tm)) (hlen : rs.length = fs.length) (hfs : fs.length ≤ 100) (hru : ∀ j (h : j < fs.length) (h' : j < rs.length), RuC fs[j] rs[j]) (hgd : ∀ r ∈ rs, ∀ t u, gdM t → r t = some u → gdM u)
    (t : Tm) (v : Value) (fp : List Nat) (w : World) (R : Nat) (hat : t.At w v fp) (hg : gdM t) (ho : okT t) (hz : t.sz ≤ 1048576) (hR : w.heap[R]? = some (Obj.cells (fs.map fun f => Value.func (.func f) #[] #[]).toArray 63)) :
    Calls Tryd.prog 27 #[v, .slice (some ⟨R, 0, none⟩) fs.length fs.length] w (MadeM w (lvT nxI (chR rs) 0 t)) := by
  obtain ⟨e0, e1, e2, e3, e4, e5, e6, e7, e8, e9, e10, e11, e12, e13, e14, rfl⟩ := hat.agg
  have hb0 : Below w.heap.size w (((w.alloc (Obj.cells #[.int .i64 e0, .string e1, .int .i64 e2, .int .i64 e3, .slice e5 e4 e6, .int .i64 e7, .slice e9 e8 e10, .int .i64 e11, .slice e13 e12 e14] 34)).alloc (Obj.cells #[.slice (some ⟨R, 0, none⟩) fs.length fs.length] 62)).alloc (Obj.cells #[.int .i64 0, .string ⟨#[]⟩, .int .i64 0, .int .i64 0, .slice none 0 0, .int .i64 0, .slice none 0 0, .int .i64 0, .slice none 0 0] 34)) := (((Below.refl _ _).alloc (Nat.le_refl _) _).alloc (by simp) _).alloc (by simp; omega) _
  have hs0 : (((w.alloc (Obj.cells #[.int .i64 e0, .string e1, .int .i64 e2, .int .i64 e3, .slice e5 e4 e6, .int .i64 e7, .slice e9 e8 e10, .int .i64 e11, .slice e13 e12 e14] 34)).alloc (Obj.cells #[.slice (some ⟨R, 0, none⟩) fs.length fs.length] 62)).alloc (Obj.cells #[.int .i64 0, .string ⟨#[]⟩, .int .i64 0, .int .i64 0, .slice none 0 0, .int .i64 0, .slice none 0 0, .int .i64 0, .slice none 0 0] 34)).heap.size = w.heap.size + 1 + 1 + 1 := by simp
  obtain ⟨hB0, hQ0, hZ0⟩ := three_out (Below.refl (((w.alloc (Obj.cells #[.int .i64 e0, .string e1, .int .i64 e2, .int .i64 e3, .slice e5 e4 e6, .int .i64 e7, .slice e9 e8 e10, .int .i64 e11, .slice e13 e12 e14] 34)).alloc (Obj.cells #[.slice (some ⟨R, 0, none⟩) fs.length fs.length] 62)).alloc (Obj.cells #[.int .i64 0, .string ⟨#[]⟩, .int .i64 0, .int .i64 0, .slice none 0 0, .int .i64 0, .slice none 0 0, .int .i64 0, .slice none 0 0] 34)).heap.size (((w.alloc (Obj.cells #[.int .i64 e0, .string e1, .int .i64 e2, .int .i64 e3, .slice e5 e4 e6, .int .i64 e7, .slice e9 e8 e10, .int .i64 e11, .slice e13 e12 e14] 34)).alloc (Obj.cells #[.slice (some ⟨R, 0, none⟩) fs.length fs.length] 62)).alloc (Obj.cells #[.int .i64 0, .string ⟨#[]⟩, .int .i64 0, .int .i64 0, .slice none 0 0, .int .i64 0, .slice none 0 0, .int .i64 0, .slice none 0 0] 34)))
  have hRl := lt_of_block hR
  have HL := hid (leaves_any 52 #[.pointer (some ⟨w.heap.size + 1, 0, none⟩)] none (w.heap.size + 1 + 1) (RlSt fs (w.heap.size + 1) R) nxI (chR rs) callOk_ru (fun u h => by cases h) (RlSt.below (by omega) (by omega)) (fun n k => by unfold nxI; omega) (fun _ _ => gd_fst hgd)
    (rules_lf fs rs (w.heap.size + 1) R (w.heap.size + 1 + 1) (by omega) (by omega) hlen hfs hru) t 0 _ fp (((w.alloc (Obj.cells #[.int .i64 e0, .string e1, .int .i64 e2, .int .i64 e3, .slice e5 e4 e6, .int .i64 e7, .slice e9 e8 e10, .int .i64 e11, .slice e13 e12 e14] 34)).alloc (Obj.cells #[.slice (some ⟨R, 0, none⟩) fs.length fs.length] 62)).alloc (Obj.cells #[.int .i64 0, .string ⟨#[]⟩, .int .i64 0, .int .i64 0, .slice none 0 0, .int .i64 0, .slice none 0 0, .int .i64 0, .slice none 0 0] 34)) (hat.below hb0) hg ho (by omega) hz ⟨hQ0, blk hR hb0⟩ (by rw [hs0]; omega) (fun b hb h => by cases h))
  generalize lvT nxI (chR rs) 0 t = EE at *
  clear hat hg ho hru hgd
  go_enter Tryd.func27, Tryd.ntmps27
  go_upto_region 1 with (fail)
  generalize (((w.alloc (Obj.cells #[.int .i64 e0, .string e1, .int .i64 e2, .int .i64 e3, .slice e5 e4 e6, .int .i64 e7, .slice e9 e8 e10, .int .i64 e11, .slice e13 e12 e14] 34)).alloc (Obj.cells #[.slice (some ⟨R, 0, none⟩) fs.length fs.length] 62)).alloc (Obj.cells #[.int .i64 0, .string ⟨#[]⟩, .int .i64 0, .int .i64 0, .slice none 0 0, .int .i64 0, .slice none 0 0, .int .i64 0, .slice none 0 0] 34)) = W1 at HL hB0 hQ0 hZ0 hb0 hs0 ⊢
  obtain ⟨x0, x1, x2, x3, x4, x5, x6, x7, x8⟩ := cells9 hB0
  go_wp2_with fail
  refine HL.out.mono ?_
  rintro e w2 ⟨v2, f2, rfl, hu, hf, hbx, -⟩
  obtain ⟨r0, r1, r2, r3, r4, r5, r6, r7, r8, r9, r10, r11, r12, r13, r14, rfl⟩ := hu.agg
  have hb2 := hbx.below
  have hZ2 := blk hZ0 hb2
  obtain ⟨y0, y1, y2, y3, y4, y5, y6, y7, y8⟩ := cells9 hZ2
  have yz := fun o => frozen_of_block (o := o) hZ2
  have hM := lt_of_block hZ2
  have hb3 : Below w.heap.size w w2 := below_trans hb0 hb2
  have ab : Above (w.heap.size + 1 + 1 + 1) w2 (put w2 (w.heap.size + 1 + 1) 0 [.int .i64 r0, .string r1, .int .i64 r2, .int .i64 r3, .slice r5 r4 r6, .int .i64 r7, .slice r9 r8 r10, .int .i64 r11, .slice r13 r12 r14]) := (Above.refl _ _).put (by omega)
  rw [hs0] at hf
  have FIN := hid (show MadeM w EE (.returned (.agg (Array.mk [.int .i64 r0, .string r1, .int .i64 r2, .int .i64 r3, .slice r5 r4 r6, .int .i64 r7, .slice r9 r8 r10, .int .i64 r11, .slice r13 r12 r14]))) (put w2 (w.heap.size + 1 + 1) 0 [.int .i64 r0, .string r1, .int .i64 r2, .int .i64 r3, .slice r5 r4 r6, .int .i64 r7, .slice r9 r8 r10, .int .i64 r11, .slice r13 r12 r14]) from ⟨_, f2, rfl, hu.above ab hf.ge, (hf.above ab (Nat.le_refl _)).mono (by omega), below_put hb3 (by omega)⟩)
  simp only [put, Nat.zero_add, Nat.reduceAdd] at FIN
  clear x0 x1 x2 x3 x4 x5 x6 x7 x8 hu hf hbx hb2 hZ2 hb3 ab HL hB0 hQ0 hZ0 hb0
  go_wp2_with fail
  exact bodyPost_ret (v := .agg (Array.mk [.int .i64 r0, .string r1, .int .i64 r2, .int .i64 r3, .slice r5 r4 r6, .int .i64 r7, .slice r9 r8 r10, .int .i64 r11, .slice r13 r12 r14])) (by simp [results, Tryd.results27, go_sem, y0, y1, y2, y3, y4, y5, y6, y7, y8]) rfl FIN.out
end Go.Proofs.YtjpmlmdbldcbjaaDoor

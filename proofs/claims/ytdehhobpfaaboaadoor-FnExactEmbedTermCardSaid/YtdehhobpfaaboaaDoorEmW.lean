/- The program's embedNode, and its rewriteTerm with that change. -/
import Derived.Test.YtdehhobpfaaboaaDoorBrW
import Derived.Test.YtdehhobpfaaboaaDoorEmA
namespace Go.Proofs.YtdehhobpfaaboaaDoor
open Go.RowKit

def RwE (t : Tm) : Prop := ∀ v fp w, t.At w v fp → bOk t → Calls Tryd.prog 59 #[v, .func (.func 60) #[] #[]] w (MadeM w (embT t))

theorem callOk_em : CallOkT 60 := fun _ _ => by kernel_rfl

def EmOut (w : World) (fp : List Nat) (u : Tm) (e : Ending) (w' : World) : Prop := NdOut 60 #[] none 0 (fun _ _ => True) w fp 0 u e w'

set_option maxRecDepth 100000 in
set_option maxHeartbeats 4000000 in
theorem embedNode_of (t : Tm) (v : Value) (fp : List Nat) (w : World) (hok : bOk t) (hsz : t.sz ≤ 1048576) (hat : t.At w v fp) (ih : ∀ u : Tm, u.sz < t.sz → RwE u) :
    Calls Tryd.prog 60 #[v] w (EmOut w fp (embT t)) := by
  have hat0 := hat
  have hlt := hat.lt
  obtain ⟨e0, e1, e2, e3, e4, e5, e6, e7, e8, e9, e10, e11, e12, e13, e14, rfl⟩ := hat.agg
  have hb0 : Below w.heap.size w ((w.alloc (Obj.cells #[.int .i64 e0, .string e1, .int .i64 e2, .int .i64 e3, .slice e5 e4 e6, .int .i64 e7, .slice e9 e8 e10, .int .i64 e11, .slice e13 e12 e14] 34)).alloc (Obj.cells #[.int .i64 0, .string ByteArray.empty, .int .i64 0, .int .i64 0, .slice none 0 0, .int .i64 0, .slice none 0 0, .int .i64 0, .slice none 0 0] 34)) := ((Below.refl _ _).alloc (Nat.le_refl _) _).alloc (by simp) _
  have HCALL := hid (bareNode_any t _ fp ((w.alloc (Obj.cells #[.int .i64 e0, .string e1, .int .i64 e2, .int .i64 e3, .slice e5 e4 e6, .int .i64 e7, .slice e9 e8 e10, .int .i64 e11, .slice e13 e12 e14] 34)).alloc (Obj.cells #[.int .i64 0, .string ByteArray.empty, .int .i64 0, .int .i64 0, .slice none 0 0, .int .i64 0, .slice none 0 0, .int .i64 0, .slice none 0 0] 34)) hok (hat0.below hb0))
  have HB0 := hid hb0
  have hs0 : (((w.alloc (Obj.cells #[.int .i64 e0, .string e1, .int .i64 e2, .int .i64 e3, .slice e5 e4 e6, .int .i64 e7, .slice e9 e8 e10, .int .i64 e11, .slice e13 e12 e14] 34)).alloc (Obj.cells #[.int .i64 0, .string ByteArray.empty, .int .i64 0, .int .i64 0, .slice none 0 0, .int .i64 0, .slice none 0 0, .int .i64 0, .slice none 0 0] 34))).heap.size = w.heap.size + 1 + 1 := by simp
  have HZ0 := hid hs0
  have HIH := hid ih
  have HSZ := hid hsz
  have HLT := hid hlt
  clear hat hat0 hb0 hs0 hok ih hsz hlt
  go_enter Tryd.func60, Tryd.ntmps60
  go_wp2_with fail
  refine HCALL.out.mono ?_
  rintro e w1 ⟨k, nm, num, ts, a3, c3, f3, j1, m1, p1, d1, j2, m2, p2, d2, g1, g2, hst, hokL, hszL, hnm, hs, hf3, rfl, hv1, hv2, hg, hb1⟩
  obtain ⟨hB, hZ⟩ := two_out hb1
  obtain ⟨x0, x1, x2, x3, x4, x5, x6, x7, x8⟩ := cells9 hB
  have xz := fun o => frozen_of_block (o := o) hB
  have hM : w.heap.size + 1 < w1.heap.size := lt_of_block hZ
  rw [HZ0.out] at hg
  have hs' : SmAt w ts (.slice a3 ts.length c3) f3 := hs.congr fun b hb o => World.cell?_of_block (w := ((w.alloc (Obj.cells #[.int .i64 e0, .string e1, .int .i64 e2, .int .i64 e3, .slice e5 e4 e6, .int .i64 e7, .slice e9 e8 e10, .int .i64 e11, .slice e13 e12 e14] 34)).alloc (Obj.cells #[.int .i64 0, .string ByteArray.empty, .int .i64 0, .int .i64 0, .slice none 0 0, .int .i64 0, .slice none 0 0, .int .i64 0, .slice none 0 0] 34))) (a := ⟨b, o, none⟩) (HB0.out.block b (HLT.out b (hf3 b hb))).symm
  have sz2 : (put w1 w.heap.size 0 [.int .i64 k, .string nm, .int .i64 num, .int .i64 j1, .slice p1 m1 d1, .int .i64 j2, .slice p2 m2 d2, .int .i64 0, .slice a3 ts.length c3]).heap.size = w1.heap.size := size_put
  have b1 : Below w.heap.size w w1 := below_trans HB0.out hb1
  have b2 : Below w.heap.size w (put w1 w.heap.size 0 [.int .i64 k, .string nm, .int .i64 num, .int .i64 j1, .slice p1 m1 d1, .int .i64 j2, .slice p2 m2 d2, .int .i64 0, .slice a3 ts.length c3]) := below_put b1 (Nat.le_refl _)
  have ab1 : Above (w.heap.size + 1 + 1) w1 (put w1 w.heap.size 0 [.int .i64 k, .string nm, .int .i64 num, .int .i64 j1, .slice p1 m1 d1, .int .i64 j2, .slice p2 m2 d2, .int .i64 0, .slice a3 ts.length c3]) := (Above.refl (w.heap.size + 1 + 1) w1).put (by omega)
  have hB2 : (put w1 w.heap.size 0 [.int .i64 k, .string nm, .int .i64 num, .int .i64 j1, .slice p1 m1 d1, .int .i64 j2, .slice p2 m2 d2, .int .i64 0, .slice a3 ts.length c3]).heap[w.heap.size]? = some (.cells (Array.mk [.int .i64 k, .string nm, .int .i64 num, .int .i64 j1, .slice p1 m1 d1, .int .i64 j2, .slice p2 m2 d2, .int .i64 0, .slice a3 ts.length c3]) 34 (0, 0)) := by
    rw [heap_put hB]
    simp only [putA, List.setIfInBounds_toArray, List.set]
  have hZ2 : (put w1 w.heap.size 0 [.int .i64 k, .string nm, .int .i64 num, .int .i64 j1, .slice p1 m1 d1, .int .i64 j2, .slice p2 m2 d2, .int .i64 0, .slice a3 ts.length c3]).heap[w.heap.size + 1]? = some (Obj.cells #[.int .i64 0, .string ByteArray.empty, .int .i64 0, .int .i64 0, .slice none 0 0, .int .i64 0, .slice none 0 0, .int .i64 0, .slice none 0 0] 34) := (heap_put_ne (by omega)).trans hZ
  have HT := hid (And.intro (hv1.above ab1 (fun b hb => hg.ge b (by simp [hb]))) (And.intro (hv2.above ab1 (fun b hb => hg.ge b (by simp [hb]))) (hg.above ab1 (Nat.le_refl _))))
  have HW2 := hid (And.intro hB2 (And.intro hZ2 (And.intro b2 sz2)))
  have HS := hid (And.intro hs' (And.intro (hs'.below b2) hf3))
  have HN := hid (And.intro hst.emb (And.intro hokL (And.intro hszL hnm)))
  clear hB hZ hs hs' hst hokL hszL hnm hf3 hv1 hv2 hg hb1 sz2 b1 b2 ab1 hB2 hZ2 HCALL
  go_upto_region 2 with (fail)
  generalize hW2 : (((((((((w1.setCell ⟨w.heap.size, 0, none⟩ (.int .i64 k)).setCell ⟨w.heap.size, 1, none⟩ (.string nm)).setCell ⟨w.heap.size, 2, none⟩ (.int .i64 num)).setCell ⟨w.heap.size, 3, none⟩ (.int .i64 j1)).setCell ⟨w.heap.size, 4, none⟩ (.slice p1 m1 d1)).setCell ⟨w.heap.size, 5, none⟩ (.int .i64 j2)).setCell ⟨w.heap.size, 6, none⟩ (.slice p2 m2 d2)).setCell ⟨w.heap.size, 7, none⟩ (.int .i64 0)).setCell ⟨w.heap.size, 8, none⟩ (.slice a3 ts.length c3)) = W2
  have e2 : W2 = put w1 w.heap.size 0 [.int .i64 k, .string nm, .int .i64 num, .int .i64 j1, .slice p1 m1 d1, .int .i64 j2, .slice p2 m2 d2, .int .i64 0, .slice a3 ts.length c3] := by rw [← hW2]; simp only [put, Nat.zero_add, Nat.reduceAdd]
  rw [← e2] at HT HW2 HS
  clear x0 x1 x2 x3 x4 x5 x6 x7 x8 xz e2 hW2
  obtain ⟨x0, x1, x2, x3, x4, x5, x6, x7, x8⟩ := cells9 HW2.out.1
  obtain ⟨y0, y1, y2, y3, y4, y5, y6, y7, y8⟩ := cells9 HW2.out.2.1
  have yz := fun o => frozen_of_block (o := o) HW2.out.2.1
  have hM2 : w.heap.size + 1 < W2.heap.size := lt_of_block HW2.out.2.1
  have HKID := hid (fun (j : Nat) (h : j < ts.length) (h' : j < (embL ts).length) (v : Value) (fp : List Nat) (w : World) (hat : ts[j].At w v fp) (_ : True) (_ : 0 ≤ w.heap.size) (_ : ∀ b ∈ fp, some b ≠ none) => (show Calls Tryd.prog 59 #[v, .func (.func 60) #[] #[]] w (RoOut none (fun _ _ => True) w (j + 1) (embL ts)[j]) from by
    rw [embL_get ts j h h']
    have hk : ts[j].sz < t.sz := by have := sz_mem (List.getElem_mem h); have := HN.out.2.2.1; omega
    exact (HIH.out ts[j] hk v fp w hat (bOkL_get HN.out.2.1 j h)).mono fun e w' => made_ro))
  clear HIH
  by_cases hK : emK k = true
  · have FIN := hid (show EmOut w fp (embT t) (.returned (.tuple #[.agg (Array.mk [.int .i64 k, .string nm, .int .i64 num, .int .i64 j1, .slice p1 m1 d1, .int .i64 j2, .slice p2 m2 d2, .int .i64 0, .slice a3 ts.length c3]), .bool true])) (put W2 (w.heap.size + 1) 0 [.int .i64 k, .string nm, .int .i64 num, .int .i64 j1, .slice p1 m1 d1, .int .i64 j2, .slice p2 m2 d2, .int .i64 0, .slice a3 ts.length c3]) from by
      have ab := (Above.refl (w.heap.size + 1 + 1) W2).put (vs := [.int .i64 k, .string nm, .int .i64 num, .int .i64 j1, .slice p1 m1 d1, .int .i64 j2, .slice p2 m2 d2, .int .i64 0, .slice a3 ts.length c3]) (o := 0) (b := w.heap.size + 1) (by omega)
      have hE : embT t = .mk k nm num (bty k) (.mk 0 []) 0 (embL ts) := by rw [HN.out.1]; unfold emN; rw [if_pos hK]
      exact .inr ⟨fun _ _ => True, k, nm, num, bty k, .mk 0 [], 0, ts, embL ts, a3, c3, f3, j1, m1, p1, d1, j2, m2, p2, d2, g1, g2, rfl, hE, embL_len ts, by have := HN.out.2.2.1; have := HSZ.out; omega, HN.out.2.2.2, HS.out.1, HS.out.2.2,
        HT.out.1.above ab (fun b hb => HT.out.2.2.ge b (by simp [hb])), HT.out.2.1.above ab (fun b hb => HT.out.2.2.ge b (by simp [hb])), (HT.out.2.2.above ab (Nat.le_refl _)).mono (by omega), Bo.of_below (below_put HW2.out.2.2.1 (by omega)), trivial, fun _ _ => trivial, fun _ _ _ _ _ => trivial, HKID.out⟩)
    have hk5 : k = 1 ∨ k = 6 ∨ k = 9 ∨ k = 11 ∨ k = 12 := by simpa [emK] using hK
    clear hK HT HW2 HS HN HKID
    rcases hk5 with hk | hk | hk | hk | hk
    all_goals
      subst hk
      go_wp2_with fail
      exact bodyPost_ret (v := .tuple #[.agg (Array.mk [.int .i64 _, .string nm, .int .i64 num, .int .i64 j1, .slice p1 m1 d1, .int .i64 j2, .slice p2 m2 d2, .int .i64 0, .slice a3 ts.length c3]), .bool true]) (by simp [results, Tryd.results60, go_sem, y0, y1, y2, y3, y4, y5, y6, y7, y8]) rfl FIN.out
  · have hk5 : ¬(k = 1 ∨ k = 6 ∨ k = 9 ∨ k = 11 ∨ k = 12) := fun h => hK (by simpa [emK] using h)
    have q1 : (k == 1) = false := by simp; omega
    have q6 : (k == 6) = false := by simp; omega
    have q9 : (k == 9) = false := by simp; omega
    have q11 : (k == 11) = false := by simp; omega
    have q12 : (k == 12) = false := by simp; omega
    have HE := hid (show embT t = asT (.mk k nm num (bty k) (.mk 0 []) 0 (embL ts)) by rw [HN.out.1]; unfold emN; rw [if_neg hK])
    have HKW := hid (rewriteKids_of 60 #[] none 0 (w.heap.size + 1 + 1) (fun _ _ => True) (fun u e => by cases e) (fun u e => by cases e) (fun _ _ _ _ _ => trivial) ts (embL ts) (embL_len ts) (by have := HN.out.2.2.1; have := HSZ.out; omega) HKID.out k nm num (bty k) (.mk 0 []) 0 j1 m1 p1 d1 j2 m2 p2 d2 a3 c3 g1 g2 f3 W2 HN.out.2.2.2 HT.out.1 HT.out.2.1 HT.out.2.2 (by omega) HS.out.2.1 (fun _ _ e => by cases e) trivial (Nat.zero_le _))
    clear hK hk5 HKID HT HS HN
    go_wp2_with fail
    refine HKW.out.mono ?_
    rintro e w3 ⟨v3, f3', rfl, hat3, hf3', hbx3, -⟩
    obtain ⟨s0, s1, s2, s3, s4, s5, s6, s7, s8, s9, s10, s11, s12, s13, s14, rfl⟩ := hat3.agg
    have hb3 := hbx3.below
    have hZ3 := blk HW2.out.2.1 hb3
    have HAS := hid (asUnknown_any _ _ _ w3 hat3)
    have HQ := hid (And.intro hf3' (And.intro (below_trans HW2.out.2.2.1 hb3) hZ3))
    have hM3 : w.heap.size + 1 < w3.heap.size := lt_of_block hZ3
    clear hat3 hf3' hbx3 hb3 hZ3 HKW HW2 x0 x1 x2 x3 x4 x5 x6 x7 x8 y0 y1 y2 y3 y4 y5 y6 y7 y8 yz
    go_wp2_with fail
    refine HAS.out.mono ?_
    rintro e w4 ⟨M, v4, rfl, hat4, hM4, hlt4, hfz4, hb4⟩
    obtain ⟨r0, r1, r2, r3, r4, r5, r6, r7, r8, r9, r10, r11, r12, r13, r14, rfl⟩ := hat4.agg
    have hZ4 := blk HQ.out.2.2 hb4
    obtain ⟨u0, u1, u2, u3, u4, u5, u6, u7, u8⟩ := cells9 hZ4
    have uz := fun o => frozen_of_block (o := o) hZ4
    have hM5 : w.heap.size + 1 < w4.heap.size := lt_of_block hZ4
    have F4 : Fresh (w.heap.size + 1 + 1) w4 (M :: f3') := fresh_cons (HQ.out.1.below hb4) (fun b hb => by have := (HQ.out.1.2 b hb).2.1; omega) (by omega) hlt4 hfz4
    have ab : Above (w.heap.size + 1 + 1) w4 (put w4 (w.heap.size + 1) 0 [.int .i64 r0, .string r1, .int .i64 r2, .int .i64 r3, .slice r5 r4 r6, .int .i64 r7, .slice r9 r8 r10, .int .i64 r11, .slice r13 r12 r14]) := (Above.refl _ _).put (Nat.lt_succ_self _)
    have FIN := hid (show EmOut w fp (asT (.mk k nm num (bty k) (.mk 0 []) 0 (embL ts))) (.returned (.tuple #[.agg (Array.mk [.int .i64 r0, .string r1, .int .i64 r2, .int .i64 r3, .slice r5 r4 r6, .int .i64 r7, .slice r9 r8 r10, .int .i64 r11, .slice r13 r12 r14]), .bool false])) (put w4 (w.heap.size + 1) 0 [.int .i64 r0, .string r1, .int .i64 r2, .int .i64 r3, .slice r5 r4 r6, .int .i64 r7, .slice r9 r8 r10, .int .i64 r11, .slice r13 r12 r14]) from
      .inl ⟨_, _, rfl, hat4.above ab F4.ge, (F4.above ab (Nat.le_refl _)).mono (by omega), Bo.of_below (below_put (below_trans HQ.out.2.1 hb4) (by omega)), trivial⟩)
    clear hat4 hM4 hlt4 hfz4 hb4 hZ4 F4 ab HQ HAS
    go_wp2_with fail
    exact bodyPost_ret (v := .tuple #[.agg (Array.mk [.int .i64 r0, .string r1, .int .i64 r2, .int .i64 r3, .slice r5 r4 r6, .int .i64 r7, .slice r9 r8 r10, .int .i64 r11, .slice r13 r12 r14]), .bool false]) (by simp [results, Tryd.results60, go_sem, u0, u1, u2, u3, u4, u5, u6, u7, u8]) rfl (by rw [HE.out]; exact FIN.out)

theorem rewriteEmb : ∀ (n : Nat) (t : Tm), t.sz ≤ n → t.sz ≤ 1048576 → RwE t := by
  intro n
  induction n using Nat.strongRecOn with
  | _ n ih =>
  intro t hn hsz v fp w hat hok
  refine (rewriteVia 60 #[] none 0 (fun _ _ => True) callOk_em (fun u e => by cases e) (fun _ _ _ _ _ => trivial) t v fp w 0 (embT t) hat (fun _ _ e => by cases e) (Nat.zero_le _) fun W hW => ?_).mono fun e w' => ro_made
  exact embedNode_of t v fp W hok hsz (hat.below hW) fun u hu => ih u.sz (by omega) u (Nat.le_refl _) (by omega)

theorem rewriteEmb_any (t : Tm) (v : Value) (fp : List Nat) (w : World) (hsz : t.sz ≤ 1048576) (hok : bOk t) (hat : t.At w v fp) : Calls Tryd.prog 59 #[v, .func (.func 60) #[] #[]] w (MadeM w (embT t)) :=
  rewriteEmb t.sz t (Nat.le_refl _) hsz v fp w hat hok
end Go.Proofs.YtdehhobpfaaboaaDoor

/- The specification's l12Relabel. -/
import Derived.Test.YtjpmlmdbldcbjaaDoorQG25
import Derived.Test.YtjpmlmdbldcbjaaDoorQG1
namespace Go.Proofs.YtjpmlmdbldcbjaaDoor
open Go.RowKit

def MadeXN (w : World) (t : Tm) (m : Nat) (e : Ending) (w' : World) : Prop := ∃ v fp, e = .returned (.tuple #[v, .int .i64 (m : Int)]) ∧ t.At w' v fp ∧ (∀ x ∈ fp, w.heap.size ≤ x) ∧ Below w.heap.size w w'
def relC (t : Tm) : Prop := ∀ (n : Nat) (v : Value) (fp : List Nat) (w : World), t.At w v fp → gdM t → t.sz ≤ 1048576 → n + t.sz + 1 ≤ 4194304 → Calls Tryd.prog 38 #[v, .int .i64 (n : Int)] w (MadeXN w (lvT nxL chL12 n t) (lvN nxL n t))

theorem row_roundP {w2 wr w4 : World} {us ts : List Tm} {b o j : Nat} {P : Nat → Prop} {f g : List Nat} {vs : List Value} (hlen : us.length = ts.length) (hj : j < ts.length) (hj' : j < us.length) (hl : Tm.AtL wr (cuM us ts j) b o f) (hbf : b ∉ f) (hfP : ∀ x ∈ f, P x) (hon : Only [b] w2 wr) (hb2 : b < w2.heap.size)
    (hb : Below wr.heap.size wr w4) (hu : (us[j]).At w4 (.agg vs.toArray) g) (hg : ∀ x ∈ g, wr.heap.size ≤ x) (hgP : ∀ x ∈ g, P x) :
    ∃ f', Tm.AtL (put w4 b (o + j * 9) vs) (cuM us ts (j + 1)) b o f' ∧ b ∉ f' ∧ (∀ x ∈ f', P x) ∧ Only [b] w2 (put w4 b (o + j * 9) vs) := by
  have hs := hon.size
  have hbr : b < wr.heap.size := by omega
  have hl4 : Tm.AtL w4 (cuM us ts j) b o f := hl.congr (fun o => hb.cell (p := ⟨b, o, none⟩) hbr) (fun x hx o => hb.cell (p := ⟨x, o, none⟩) (hl.lt x hx))
  have hjl : j < (cuM us ts j).length := by rw [cuM_len hlen (by omega)]; exact hj
  obtain ⟨cs, g0, hcs, hat, -⟩ := Tm.atL_get hl4 j hjl
  have h9 := Tm.size9 hat
  have hc := hcs 0 (by omega)
  rw [Array.getElem?_eq_getElem (by omega)] at hc
  obtain ⟨C, T, fz, hB⟩ := cells_of hc
  have hbg : b ∉ g := fun hm => by have := hg b hm; omega
  obtain ⟨f', q1, q2, -⟩ := rowM_set hB hu hbg j hjl hl4 hbf
  rw [cuM_set hlen hj hj'] at q1
  refine ⟨f', q1, fun hm => ?_, fun x hx => ?_, onlyPut (hon.trans (only_of_below hb))⟩
  · rcases q2 b hm with h | h
    · exact hbf h
    · exact hbg h
  · rcases q2 x hx with h | h
    · exact hfP x h
    · exact hgP x h

theorem nxL_le : ∀ n k, nxL n k ≤ n + 1 := fun n k => by unfold nxL; split <;> omega

/-- The result's last stores. -/
theorem rel_close {w wr : World} {u : Tm} {m : Nat} {vs : List Value} {g : List Nat} (h : u.At wr (.agg vs.toArray) g) (hg : ∀ x ∈ g, w.heap.size + 1 < x) (hb : Below w.heap.size w wr) : MadeXN w u m (.returned (.tuple #[.agg (Array.mk vs), .int .i64 (m : Int)])) (put wr (w.heap.size + 1) 0 vs) :=
  ⟨_, g, rfl, h.congr fun x hx o => World.cell?_of_block (w := wr) (a := ⟨x, o, none⟩) (heap_put_ne (show x ≠ w.heap.size + 1 by have := hg x hx; omega)), fun x hx => by have := hg x hx; omega, below_put hb (by omega)⟩

set_option linter.unusedVariables false in
set_option linter.unusedSimpArgs false in
set_option maxRecDepth 100000 in
set_option maxHeartbeats 4000000 in
theorem rel_of (k : Int) (nm : ByteArray) (num : Int) (ty fr : Ty) (lb : Int) (ts : List Tm) (ih : ∀ t ∈ ts, relC t) : relC (.mk k nm num ty fr lb ts) := by
  intro n v fp w hat hgd hsz hnn
  have hltA := hat.lt
  have hat0 := hat
  obtain ⟨k1, n1, a1, c1, k2, n2, a2, c2, a3, c3, f1, f2, f3, rfl, hnm, ht1, ht2, rfl, hs⟩ := hat.parts
  have hb0 : Below w.heap.size w ((w.alloc (Obj.cells #[.int .i64 k, .string nm, .int .i64 num, .int .i64 k1, .slice a1 n1 c1, .int .i64 k2, .slice a2 n2 c2, .int .i64 lb, .slice a3 ts.length c3] 34)).alloc (Obj.cells #[.int .i64 0, .string ⟨#[]⟩, .int .i64 0, .int .i64 0, .slice none 0 0, .int .i64 0, .slice none 0 0, .int .i64 0, .slice none 0 0] 34)) := ((Below.refl _ _).alloc (Nat.le_refl _) _).alloc (by simp) _
  have hs0 : ((w.alloc (Obj.cells #[.int .i64 k, .string nm, .int .i64 num, .int .i64 k1, .slice a1 n1 c1, .int .i64 k2, .slice a2 n2 c2, .int .i64 lb, .slice a3 ts.length c3] 34)).alloc (Obj.cells #[.int .i64 0, .string ⟨#[]⟩, .int .i64 0, .int .i64 0, .slice none 0 0, .int .i64 0, .slice none 0 0, .int .i64 0, .slice none 0 0] 34)).heap.size = w.heap.size + 1 + 1 := by simp
  obtain ⟨hB0, hZ0⟩ := two_out (Below.refl ((w.alloc (Obj.cells #[.int .i64 k, .string nm, .int .i64 num, .int .i64 k1, .slice a1 n1 c1, .int .i64 k2, .slice a2 n2 c2, .int .i64 lb, .slice a3 ts.length c3] 34)).alloc (Obj.cells #[.int .i64 0, .string ⟨#[]⟩, .int .i64 0, .int .i64 0, .slice none 0 0, .int .i64 0, .slice none 0 0, .int .i64 0, .slice none 0 0] 34)).heap.size ((w.alloc (Obj.cells #[.int .i64 k, .string nm, .int .i64 num, .int .i64 k1, .slice a1 n1 c1, .int .i64 k2, .slice a2 n2 c2, .int .i64 lb, .slice a3 ts.length c3] 34)).alloc (Obj.cells #[.int .i64 0, .string ⟨#[]⟩, .int .i64 0, .int .i64 0, .slice none 0 0, .int .i64 0, .slice none 0 0, .int .i64 0, .slice none 0 0] 34)))
  have HCP := hid (l2Copy_any _ _ _ ((w.alloc (Obj.cells #[.int .i64 k, .string nm, .int .i64 num, .int .i64 k1, .slice a1 n1 c1, .int .i64 k2, .slice a2 n2 c2, .int .i64 lb, .slice a3 ts.length c3] 34)).alloc (Obj.cells #[.int .i64 0, .string ⟨#[]⟩, .int .i64 0, .int .i64 0, .slice none 0 0, .int .i64 0, .slice none 0 0, .int .i64 0, .slice none 0 0] 34)) (hat.below hb0) hsz)
  simp only [gdM] at hgd
  have hszs : ts.length + szML ts ≤ 1048576 := by simp only [Tm.sz] at hsz; omega
  have hns : n + ts.length + szML ts + 1 ≤ 4194304 := by simp only [Tm.sz] at hnn; omega
  have hLT : lvT nxL chL12 n (.mk k nm num ty fr lb ts) = chL12 (lvNL nxL n ts) (.mk k nm num ty fr lb (lvL nxL chL12 n ts)) := by rw [lvT]
  have hLN : lvN nxL n (.mk k nm num ty fr lb ts) = nxL (lvNL nxL n ts) k := by rw [lvN]
  have hll := lvL_len nxL chL12 ts n
  have hgl : ∀ (j : Nat) (h : j < ts.length) (h' : j < (lvL nxL chL12 n ts).length), (lvL nxL chL12 n ts)[j] = lvT nxL chL12 (lvNL nxL n (ts.take j)) ts[j] := lvL_get nxL chL12 ts n
  rw [hLT, hLN]
  generalize lvL nxL chL12 n ts = us at *
  have HIH := hid (fun (j : Nat) (h : j < ts.length) (h' : j < us.length) (v : Value) (fp : List Nat) (W : World) (hat : ts[j].At W v fp) => (show Calls Tryd.prog 38 #[v, .int .i64 ((lvNL nxL n (ts.take j) : Nat) : Int)] W (MadeXN W us[j] (lvNL nxL n (ts.take (j + 1)))) from by
    rw [hgl j h h', lvNL_take nxL ts n j h]
    exact ih _ (List.getElem_mem h) _ v fp W hat (gdL_mem hgd.2 _ (List.getElem_mem h)) (by have := sz_mem (List.getElem_mem h); omega) (by have := lvNL_take_le nxL nxL_le ts n j h; omega)))
  have HNB := hid (fun (j : Nat) (h : j < ts.length) => lvNL_take_le nxL nxL_le ts n j h)
  have HNE := hid (lvNL_le nxL nxL_le ts n)
  have HN0 := hid (show lvNL nxL n (ts.take 0) = n from by simp [lvNL])
  have HNA := hid (show lvNL nxL n (ts.take ts.length) = lvNL nxL n ts from by rw [List.take_length])
  generalize hE : chL12 (lvNL nxL n ts) (.mk k nm num ty fr lb us) = EE
  generalize hEN : nxL (lvNL nxL n ts) k = EN
  have HEN := hid hEN
  clear hLT hLN hgl ih hat hEN hnn
  go_enter Tryd.func38, Tryd.ntmps38
  go_upto_region 1 with (fail)
  generalize ((w.alloc (Obj.cells #[.int .i64 k, .string nm, .int .i64 num, .int .i64 k1, .slice a1 n1 c1, .int .i64 k2, .slice a2 n2 c2, .int .i64 lb, .slice a3 ts.length c3] 34)).alloc (Obj.cells #[.int .i64 0, .string ⟨#[]⟩, .int .i64 0, .int .i64 0, .slice none 0 0, .int .i64 0, .slice none 0 0, .int .i64 0, .slice none 0 0] 34)) = W1 at HCP hB0 hZ0 hb0 hs0 ⊢
  obtain ⟨x0, x1, x2, x3, x4, x5, x6, x7, x8⟩ := cells9 hB0
  go_wp2_with fail
  refine HCP.out.mono ?_
  rintro e w1 ⟨v1, fo, rfl, ho, hfo, hb1⟩
  obtain ⟨j1, m1, p1, d1, j2, m2, p2, d2, a4, c4, g1, g2, g3, rfl, -, hy1, hy2, rfl, hos⟩ := ho.parts
  have hal : Below w1.heap.size w1 (w1.alloc (Obj.cells #[.int .i64 k, .string nm, .int .i64 num, .int .i64 j1, .slice p1 m1 d1, .int .i64 j2, .slice p2 m2 d2, .int .i64 lb, .slice a4 ts.length c4] 34)) := (Below.refl _ _).alloc (Nat.le_refl _) _
  have hO := alloc_new w1 (Obj.cells #[.int .i64 k, .string nm, .int .i64 num, .int .i64 j1, .slice p1 m1 d1, .int .i64 j2, .slice p2 m2 d2, .int .i64 lb, .slice a4 ts.length c4] 34)
  have hB := blk (blk hB0 hb1) hal
  have hZ := blk (blk hZ0 hb1) hal
  have hbw := below_trans (below_trans hb0 hb1) hal
  have hOs : w.heap.size + 1 + 1 ≤ w1.heap.size := by have := hb1.size; omega
  have hO2 : w1.heap.size < (w1.alloc (Obj.cells #[.int .i64 k, .string nm, .int .i64 num, .int .i64 j1, .slice p1 m1 d1, .int .i64 j2, .slice p2 m2 d2, .int .i64 lb, .slice a4 ts.length c4] 34)).heap.size := by simp
  have hflt : ∀ x ∈ g1 ++ (g2 ++ g3), x < w1.heap.size := fun x hx => (hfo.2 x hx).2.1
  have hfge : ∀ x ∈ g1 ++ (g2 ++ g3), w.heap.size + 1 < x := fun x hx => by have := hfo.ge x hx; omega
  replace hy1 := hy1.below hal
  replace hy2 := hy2.below hal
  replace hos := hos.below hal
  have hfz := (hfo.below hal)
  have hs2 := hs.below hbw
  replace ht1 := ht1.below hbw
  replace ht2 := ht2.below hbw
  clear x0 x1 x2 x3 x4 x5 x6 x7 x8 hB0 hZ0 hb1 hb0 HCP ho
  go_upto_region 2 with (fail)
  generalize hx : w1.alloc (Obj.cells #[.int .i64 k, .string nm, .int .i64 num, .int .i64 j1, .slice p1 m1 d1, .int .i64 j2, .slice p2 m2 d2, .int .i64 lb, .slice a4 ts.length c4] 34) = W2 at hO hB hZ hbw hO2 hy1 hy2 hos hfz hs2 ht1 ht2 ⊢
  generalize hO1 : w1.heap.size = O at hO hOs hO2 hflt ⊢
  clear hal hx hO1 hfo hs0
  rcases hos with ⟨rfl, rfl, a4', c4', e4⟩ | ⟨b, o, cap, f0, e4, hp, hc4, hm4, hl0, rfl⟩
  · cases e4
    obtain rfl : us = [] := List.length_eq_zero_iff.1 (by simpa using hll)
    have hk : k ≠ 14 := fun e => by have := (hgd.1 e).1; simp at this
    have hk' : (k == 14) = false := by simpa using hk
    obtain rfl : EE = .mk k nm num ty fr lb [] := by rw [← hE]; simp [chL12, hk]
    have hnil : lvNL nxL n ([] : List Tm) = n := by simp only [lvNL]
    obtain rfl : EN = n := by rw [← HEN.out, hnil]; simp [nxL, hk]
    obtain ⟨x0, x1, x2, x3, x4, x5, x6, x7, x8⟩ := cells9 hB
    go_wp2_with fail
    go_loopw [1, 7] (fun m i wr => m = .int .i64 (EN : Int) ∧ i = .int .i64 0 ∧ wr = W2) (fun _ _ _ => 0)
    case atStart => exact ⟨rfl, rfl, rfl⟩
    case round =>
      obtain ⟨rfl, rfl, rfl⟩ := hrel
      obtain ⟨u0, u1, u2, u3, u4, u5, u6, u7, u8⟩ := cells9 hO
      obtain ⟨y0, y1, y2, y3, y4, y5, y6, y7, y8⟩ := cells9 hZ
      have yz := fun o => frozen_of_block (o := o) hZ
      have hM := lt_of_block hZ
      have FIN := hid (rel_close (m := EN) (vs := [.int .i64 k, .string nm, .int .i64 num, .int .i64 j1, .slice p1 m1 d1, .int .i64 j2, .slice p2 m2 d2, .int .i64 lb, .slice a4 0 c4]) (Tm.at_mk.2 ⟨_, _, _, _, _, g1, g2, [], rfl, hnm, hy1, hy2, rfl, .inl ⟨rfl, rfl, _, _, rfl⟩⟩) (fun x hx => hfge x (by simpa using hx)) hbw)
      simp only [put, Nat.zero_add, Nat.reduceAdd] at FIN
      go_wp2_with fail
      exact bodyPost_ret (v := .tuple #[.agg (Array.mk [.int .i64 k, .string nm, .int .i64 num, .int .i64 j1, .slice p1 m1 d1, .int .i64 j2, .slice p2 m2 d2, .int .i64 lb, .slice a4 0 c4]), .int .i64 (EN : Int)]) (by simp [results, Tryd.results38, go_sem, y0, y1, y2, y3, y4, y5, y6, y7, y8]) rfl FIN.out
  · cases e4
    have hbO : b < O := hflt b (by simp)
    have hbS : w.heap.size + 1 < b := hfge b (by simp)
    have hnd := hfz.1
    have hbf : b ∉ f0 := by
      have := (List.nodup_append.1 (List.nodup_append.1 hnd).2.1).2.1
      exact (List.nodup_cons.1 this).1
    have hbg1 : ∀ x ∈ g1, x ∉ [b] := fun x hx hm => by
      rw [List.mem_singleton] at hm
      exact (List.nodup_append.1 hnd).2.2 x hx b (by simp) hm
    have hbg2 : ∀ x ∈ g2, x ∉ [b] := fun x hx hm => by
      rw [List.mem_singleton] at hm
      exact (List.nodup_append.1 (List.nodup_append.1 hnd).2.1).2.2 x hx b (by simp) hm
    have hz2 : ∀ o, W2.frozen? ⟨b, o, none⟩ = false := (hfz.2 b (by simp)).2.2
    obtain ⟨ae, ce, hse, hcc, hmm, -⟩ := hs2.open
    cases hse
    -- what stands while only the operands' block is written
    have HFR := hid (fun (W : World) (h : Only [b] W2 W) => (show W.heap[w.heap.size]? = some (Obj.cells #[.int .i64 k, .string nm, .int .i64 num, .int .i64 k1, .slice a1 n1 c1, .int .i64 k2, .slice a2 n2 c2, .int .i64 lb, .slice a3 ts.length c3] 34) ∧ W.heap[w.heap.size + 1]? = some (Obj.cells #[.int .i64 0, .string ⟨#[]⟩, .int .i64 0, .int .i64 0, .slice none 0 0, .int .i64 0, .slice none 0 0, .int .i64 0, .slice none 0 0] 34) ∧ W.heap[O]? = some (Obj.cells #[.int .i64 k, .string nm, .int .i64 num, .int .i64 j1, .slice p1 m1 d1, .int .i64 j2, .slice p2 m2 d2, .int .i64 lb, .slice (some ⟨b, o, none⟩) ts.length c4] 34) ∧ Below w.heap.size w W from
      ⟨(h.block _ (by omega) (by simp; omega)).trans hB, (h.block _ (by omega) (by simp; omega)).trans hZ, (h.block _ hO2 (by simp; omega)).trans hO, ⟨h.os.trans hbw.os, h.tape.trans hbw.tape, h.output.trans hbw.output, Nat.le_trans hbw.size h.size, fun i hi => (h.block i (Nat.lt_of_lt_of_le hi hbw.size) (by simp; omega)).trans (hbw.block i hi)⟩⟩))
    have HKS := hid (fun (W : World) (h : Only [b] W2 W) => hs2.onlyLs h (fun x hx => by have := hltA x (by simp [hx]); simp; omega))
    have HT1 := hid (fun (W : World) (h : Only [b] W2 W) => ht1.onlyLs h (fun x hx => by have := hltA x (by simp [hx]); simp; omega))
    have HT2 := hid (fun (W : World) (h : Only [b] W2 W) => ht2.onlyLs h (fun x hx => by have := hltA x (by simp [hx]); simp; omega))
    have HY1 := hid (fun (W : World) (h : Only [b] W2 W) => hy1.onlyLs h hbg1)
    have HY2 := hid (fun (W : World) (h : Only [b] W2 W) => hy2.onlyLs h hbg2)
    have HF0 := hid (And.intro hl0 (And.intro hbf (fun x (hx : x ∈ f0) => (show w.heap.size + 2 ≤ x ∧ x ≠ O by have := hfge x (by simp [hx]); have := hflt x (by simp [hx]); omega))))
    have HGE := hid hfge
    have HZ2 := hid hz2
    have HGO := hid hflt
    have HNM := hid hnm
    have HE := hid hE
    have HLL := hid hll
    have hts : ts.length ≤ 1048576 := by omega
    have HW := hid hbw
    have hs2w : w.heap.size + 2 ≤ W2.heap.size := by omega
    clear hB hZ hO hbw hs2 ht1 ht2 hy1 hy2 hl0 hbf hbg1 hbg2 hz2 hfz hnd hfge hflt hgd hnm hE hll hs hltA hat0
    have hE0 := (HFR.out W2 (Only.refl _ _)).1
    obtain ⟨x0, x1, x2, x3, x4, x5, x6, x7, x8⟩ := cells9 hE0
    clear hE0
    go_wp2_with fail
    go_loopw [1, 7] (fun m i wr => ∃ (j : Nat) (f : List Nat), j ≤ ts.length ∧ m = .int .i64 ((lvNL nxL n (ts.take j) : Nat) : Int) ∧ i = .int .i64 j ∧ Tm.AtL wr (cuM us ts j) b o f ∧ b ∉ f ∧ (∀ x ∈ f, w.heap.size + 2 ≤ x ∧ x ≠ O) ∧ Only [b] W2 wr) (fun _ i _ => ts.length - (intOf i).toNat)
    case atStart => exact ⟨0, f0, Nat.zero_le _, by rw [HN0.out], rfl, by rw [cuM_zero]; exact HF0.out.1, HF0.out.2.1, HF0.out.2.2, Only.refl _ _⟩
    case round =>
      obtain ⟨j, f, hj, rfl, rfl, hl, hbf, hfS, hon⟩ := hrel
      clear x0 x1 x2 x3 x4 x5 x6 x7 x8
      obtain ⟨hB, hZ, hO, hbw⟩ := HFR.out wr hon
      obtain ⟨x0, x1, x2, x3, x4, x5, x6, x7, x8⟩ := cells9 hB
      by_cases hlk : j < ts.length
      · have hlu : j < us.length := by rw [HLL.out]; exact hlk
        have hcl : j < (cuM us ts j).length := by rw [cuM_len HLL.out hj]; exact hlk
        obtain ⟨cs, gj, hcs, hatj, -⟩ := Tm.atL_get hl j hcl
        obtain ⟨s0, s1, s2, s3, s4, s5, s6, s7, s8, s9, s10, s11, s12, s13, s14, e⟩ := hatj.agg
        cases e
        have t0 := hcs 0 (by omega)
        have t1 := hcs 1 (by omega)
        have t2 := hcs 2 (by omega)
        have t3 := hcs 3 (by omega)
        have t4 := hcs 4 (by omega)
        have t5 := hcs 5 (by omega)
        have t6 := hcs 6 (by omega)
        have t7 := hcs 7 (by omega)
        have t8 := hcs 8 (by omega)
        have hlb : b < wr.heap.size := World.block_lt_of_cell? _ _ t0
        obtain ⟨a3', c3', e3, -, -, hget⟩ := (HKS.out wr hon).open
        simp only [Value.slice.injEq, true_and] at e3
        obtain ⟨rfl, rfl⟩ := e3
        obtain ⟨be, oe, q0, q1, q2, q3, q4, q5, q6, q7, q8, q9, q10, q11, q12, q13, q14, fk, rfl, hblt, d0, d1, d2, d3, d4, d5, d6, d7, d8, hatk, -⟩ := hget j hlk
        obtain ⟨u0, u1, u2, u3, u4, u5, u6, u7, u8⟩ := cells9 hO
        have HS := hid (fun (W : World) (h : Below wr.heap.size wr W) => (show W.cell? ⟨O, 8, none⟩ = some (.slice (some ⟨b, o, none⟩) ts.length c4) ∧ W.cell? ⟨w.heap.size, 8, none⟩ = some (.slice (some ⟨be, oe, none⟩) ts.length c3) ∧ W.cell? ⟨be, oe + j * 9, none⟩ = some (.int .i64 q0) ∧ W.cell? ⟨be, oe + j * 9 + 1, none⟩ = some (.string q1) ∧ W.cell? ⟨be, oe + j * 9 + 2, none⟩ = some (.int .i64 q2) ∧ W.cell? ⟨be, oe + j * 9 + 3, none⟩ = some (.int .i64 q3) ∧ W.cell? ⟨be, oe + j * 9 + 4, none⟩ = some (.slice q5 q4 q6) ∧ W.cell? ⟨be, oe + j * 9 + 5, none⟩ = some (.int .i64 q7) ∧ W.cell? ⟨be, oe + j * 9 + 6, none⟩ = some (.slice q9 q8 q10) ∧ W.cell? ⟨be, oe + j * 9 + 7, none⟩ = some (.int .i64 q11) ∧ W.cell? ⟨be, oe + j * 9 + 8, none⟩ = some (.slice q13 q12 q14) from ⟨cell_keep u8 h, cell_keep x8 h, cell_keep d0 h, cell_keep d1 h, cell_keep d2 h, cell_keep d3 h, cell_keep d4 h, cell_keep d5 h, cell_keep d6 h, cell_keep d7 h, cell_keep d8 h⟩))
        have HY := hid (fun (W : World) (h : Below wr.heap.size wr W) => (show W.cell? ⟨b, o + j * 9, none⟩ = some (.int .i64 s0) ∧ W.cell? ⟨b, o + j * 9 + 1, none⟩ = some (.string s1) ∧ W.cell? ⟨b, o + j * 9 + 2, none⟩ = some (.int .i64 s2) ∧ W.cell? ⟨b, o + j * 9 + 3, none⟩ = some (.int .i64 s3) ∧ W.cell? ⟨b, o + j * 9 + 4, none⟩ = some (.slice s5 s4 s6) ∧ W.cell? ⟨b, o + j * 9 + 5, none⟩ = some (.int .i64 s7) ∧ W.cell? ⟨b, o + j * 9 + 6, none⟩ = some (.slice s9 s8 s10) ∧ W.cell? ⟨b, o + j * 9 + 7, none⟩ = some (.int .i64 s11) ∧ W.cell? ⟨b, o + j * 9 + 8, none⟩ = some (.slice s13 s12 s14) from ⟨cell_keep t0 h, cell_keep t1 h, cell_keep t2 h, cell_keep t3 h, cell_keep t4 h, cell_keep t5 h, cell_keep t6 h, cell_keep t7 h, cell_keep t8 h⟩))
        have HFZ := hid (fun (W : World) (h : Below wr.heap.size wr W) => (show ∀ o, W.frozen? ⟨b, o, none⟩ = false from fun o => (h.frozen (p := ⟨b, o, none⟩) hlb).trans ((hon.frozen b o (by omega)).trans (HZ2.out o))))
        have HLB := hid hlb
        have HCL := hid (fun (W : World) (h : Below wr.heap.size wr W) => HIH.out j hlk hlu _ _ W (hatk.below h))
        have HRR := hid (fun (w4 : World) (g : List Nat) (vs : List Value) (hb : Below wr.heap.size wr w4) (hu : (us[j]).At w4 (.agg vs.toArray) g) (hg : ∀ x ∈ g, wr.heap.size ≤ x) => row_roundP (P := fun x => w.heap.size + 2 ≤ x ∧ x ≠ O) HLL.out hlk hlu hl hbf hfS hon (by omega) hb hu hg (fun x hx => by have := hg x hx; have := hon.size; omega))
        have HNJ := hid (HNB.out j hlk)
        have hnj0 : (0 : Int) ≤ ((lvNL nxL n (ts.take j) : Nat) : Int) := by omega
        have hj0 : (0 : Int) ≤ (j : Int) := by omega
        have hj1 : (j : Int) < (ts.length : Int) := by omega
        clear hl hbf hfS hB hZ hO hbw hget hatk hatj hcs hcl
        clear t0 t1 t2 t3 t4 t5 t6 t7 t8
        generalize us[j] = uj at *
        generalize lvNL nxL n (ts.take j) = nj at *
        generalize hnj1 : lvNL nxL n (ts.take (j + 1)) = nj1 at *
        clear u0 u1 u2 u3 u4 u5 u6 u7 u8
        go_wp2_with fail
        refine (HCL.out _ (Below.refl _ _)).mono ?_
        rintro e w4 ⟨v4, g4, rfl, hu4, hin4, hb4⟩
        obtain ⟨r0, r1, r2, r3, r4, r5, r6, r7, r8, r9, r10, r11, r12, r13, r14, rfl⟩ := hu4.agg
        have hal4 : Below w4.heap.size w4 (w4.alloc (Obj.cells #[.int .i64 r0, .string r1, .int .i64 r2, .int .i64 r3, .slice r5 r4 r6, .int .i64 r7, .slice r9 r8 r10, .int .i64 r11, .slice r13 r12 r14] 34)) := (Below.refl _ _).alloc (Nat.le_refl _) _
        have hK := alloc_new w4 (Obj.cells #[.int .i64 r0, .string r1, .int .i64 r2, .int .i64 r3, .slice r5 r4 r6, .int .i64 r7, .slice r9 r8 r10, .int .i64 r11, .slice r13 r12 r14] 34)
        have hk4 := below_trans hb4 hal4
        replace hu4 := hu4.below hal4
        clear x0 x1 x2 x3 x4 x5 x6 x7 x8 d0 d1 d2 d3 d4 d5 d6 d7 d8
        go_upto_region 6 with (fail)
        have hKn : w4.heap.size < (w4.alloc (Obj.cells #[.int .i64 r0, .string r1, .int .i64 r2, .int .i64 r3, .slice r5 r4 r6, .int .i64 r7, .slice r9 r8 r10, .int .i64 r11, .slice r13 r12 r14] 34)).heap.size := by simp
        generalize hx5 : w4.alloc (Obj.cells #[.int .i64 r0, .string r1, .int .i64 r2, .int .i64 r3, .slice r5 r4 r6, .int .i64 r7, .slice r9 r8 r10, .int .i64 r11, .slice r13 r12 r14] 34) = w5 at hK hk4 hu4 hKn ⊢
        clear hal4 hx5 hb4
        have hs := HS.out w5 hk4
        obtain ⟨s00, s01, -⟩ := hs
        obtain ⟨k0, k1, k2, k3, k4, k5, k6, k7, k8⟩ := cells9 hK
        obtain ⟨y0, y1, y2, y3, y4, y5, y6, y7, y8⟩ := HY.out _ hk4
        have yz := HFZ.out _ hk4
        have hlb : b < w5.heap.size := Nat.lt_of_lt_of_le HLB.out hk4.size
        have HN := hid (HRR.out w5 _ [.int .i64 r0, .string r1, .int .i64 r2, .int .i64 r3, .slice r5 r4 r6, .int .i64 r7, .slice r9 r8 r10, .int .i64 r11, .slice r13 r12 r14] hk4 hu4 (fun x hx => hin4 x hx))
        clear hu4 hin4 hk4 HS HY HFZ HLB HCL HRR hK
        go_wp2_with fail
        obtain ⟨f9, n1, n2, n3, n4⟩ := HN.out
        exact ⟨⟨j + 1, f9, by omega, by rw [hnj1], by go_num, n1, n2, n3, n4⟩, by simp [intOf]; omega⟩
      · obtain rfl : j = ts.length := by omega
        rw [cuM_all HLL.out] at hl
        clear hlk hj
        have hul := HLL.out
        have hsu : SmAt wr us (.slice (some ⟨b, o, none⟩) ts.length c4) (b :: f) := .inr ⟨b, o, c4, f, by rw [hul], by omega, by omega, by unfold maxLen; omega, hl, rfl⟩
        have HOUT := hid (show (Tm.mk k nm num ty fr lb us).At wr (.agg #[.int .i64 k, .string nm, .int .i64 num, .int .i64 j1, .slice p1 m1 d1, .int .i64 j2, .slice p2 m2 d2, .int .i64 lb, .slice (some ⟨b, o, none⟩) ts.length c4]) (g1 ++ (g2 ++ (b :: f))) ∧ (∀ x ∈ g1 ++ (g2 ++ (b :: f)), w.heap.size + 1 < x ∧ x ≠ O) from ⟨Tm.at_mk.2 ⟨_, _, _, _, _, g1, g2, b :: f, rfl, HNM.out, HY1.out wr hon, HY2.out wr hon, rfl, hsu⟩, fun x hx => by
          simp only [List.mem_append, List.mem_cons] at hx
          rcases hx with hx | hx | rfl | hx
          · have := HGE.out x (by simp [hx]); have := HGO.out x (by simp [hx]); omega
          · have := HGE.out x (by simp [hx]); have := HGO.out x (by simp [hx]); omega
          · omega
          · have := hfS x hx; omega⟩)
        have HSU := hid hsu
        have HU := hid (And.intro (HT1.out wr hon) (HT2.out wr hon))
        have HBW := hid hbw
        have HBK := hid (And.intro hB (And.intro hZ hO))
        obtain ⟨u0, u1, u2, u3, u4, u5, u6, u7, u8⟩ := cells9 hO
        obtain ⟨y0, y1, y2, y3, y4, y5, y6, y7, y8⟩ := cells9 hZ
        have yz := fun o => frozen_of_block (o := o) hZ
        have hM := lt_of_block hZ
        clear hl hbf hfS hsu hB hZ hO hbw HFR HKS HT1 HT2 HY1 HY2 HGE hon HF0 HZ2 HIH
        rw [HNA.out]
        have hne0 : (0 : Int) ≤ ((lvNL nxL n ts : Nat) : Int) := by omega
        have hne1 : ((lvNL nxL n ts : Nat) : Int) ≤ 4194303 := by have := HNE.out; omega
        generalize lvNL nxL n ts = mm at *
        by_cases hk : k = 14
        case neg =>
          have hk' : (k == 14) = false := by simpa using hk
          obtain rfl : EE = .mk k nm num ty fr lb us := by rw [← HE.out]; simp [chL12, hk]
          obtain rfl : EN = mm := by rw [← HEN.out]; simp [nxL, hk]
          have FIN := hid (rel_close (m := EN) (vs := [.int .i64 k, .string nm, .int .i64 num, .int .i64 j1, .slice p1 m1 d1, .int .i64 j2, .slice p2 m2 d2, .int .i64 lb, .slice (some ⟨b, o, none⟩) ts.length c4]) HOUT.out.1 (fun x hx => (HOUT.out.2 x hx).1) HBW.out)
          simp only [put, Nat.zero_add, Nat.reduceAdd] at FIN
          go_wp2_with fail
          exact bodyPost_ret (v := .tuple #[.agg (Array.mk [.int .i64 k, .string nm, .int .i64 num, .int .i64 j1, .slice p1 m1 d1, .int .i64 j2, .slice p2 m2 d2, .int .i64 lb, .slice (some ⟨b, o, none⟩) ts.length c4]), .int .i64 (EN : Int)]) (by simp [results, Tryd.results38, go_sem, y0, y1, y2, y3, y4, y5, y6, y7, y8]) rfl FIN.out
        subst hk
        obtain rfl : EE = .mk 14 nm num ty fr ((mm + 1 : Nat) : Int) us := by rw [← HE.out]; simp [chL12]
        obtain rfl : EN = mm + 1 := by rw [← HEN.out]; simp [nxL]
        have hOr : O < wr.heap.size := lt_of_block HBK.out.2.2
        have FIN := hid (show MadeXN w (.mk 14 nm num ty fr ((mm + 1 : Nat) : Int) us) (mm + 1) (.returned (.tuple #[.agg (Array.mk [.int .i64 14, .string nm, .int .i64 num, .int .i64 j1, .slice p1 m1 d1, .int .i64 j2, .slice p2 m2 d2, .int .i64 ((mm : Int) + 1), .slice (some ⟨b, o, none⟩) ts.length c4]), .int .i64 ((mm : Int) + 1)])) (put (wr.setCell ⟨O, 7, none⟩ (.int .i64 ((mm : Int) + 1))) (w.heap.size + 1) 0 [.int .i64 14, .string nm, .int .i64 num, .int .i64 j1, .slice p1 m1 d1, .int .i64 j2, .slice p2 m2 d2, .int .i64 ((mm : Int) + 1), .slice (some ⟨b, o, none⟩) ts.length c4]) from by
          have h1 := HOUT.out.1
          have h2 : (Tm.mk 14 nm num ty fr lb us).At (wr.setCell ⟨O, 7, none⟩ (.int .i64 ((mm : Int) + 1))) (.agg #[.int .i64 14, .string nm, .int .i64 num, .int .i64 j1, .slice p1 m1 d1, .int .i64 j2, .slice p2 m2 d2, .int .i64 lb, .slice (some ⟨b, o, none⟩) ts.length c4]) _ := h1.congr fun x hx o => World.cell?_of_block (w := wr) (a := ⟨x, o, none⟩) (Below.heap_setCell _ _ _ _ (show x ≠ O from (HOUT.out.2 x hx).2))
          obtain ⟨k1', s1, k2', s2, s, e1, e2, e3, hv, hnm, hw1, hw2, hfp, hws⟩ := Tm.at_mk.1 h2
          simp only [Value.agg.injEq, Array.mk.injEq, List.cons.injEq, true_and, and_true] at hv
          obtain ⟨rfl, rfl, rfl, rfl, rfl⟩ := hv
          exact rel_close (m := mm + 1) (vs := [.int .i64 14, .string nm, .int .i64 num, .int .i64 j1, .slice p1 m1 d1, .int .i64 j2, .slice p2 m2 d2, .int .i64 ((mm : Int) + 1), .slice (some ⟨b, o, none⟩) ts.length c4]) (Tm.at_mk.2 ⟨_, _, _, _, _, e1, e2, e3, rfl, hnm, hw1, hw2, rfl, hws⟩) (fun x hx => (HOUT.out.2 x (hfp ▸ hx)).1) (HBW.out.setCell (p := ⟨O, 7, none⟩) (by simp; omega) _))
        simp only [put, Nat.zero_add, Nat.reduceAdd] at FIN
        have uz := fun o => frozen_of_block (o := o) HBK.out.2.2
        have hOn : O ≠ w.heap.size + 1 := by omega
        have hOn2 : O ≠ w.heap.size := by omega
        go_wp2_with fail
        exact bodyPost_ret (v := .tuple #[.agg (Array.mk [.int .i64 14, .string nm, .int .i64 num, .int .i64 j1, .slice p1 m1 d1, .int .i64 j2, .slice p2 m2 d2, .int .i64 ((mm : Int) + 1), .slice (some ⟨b, o, none⟩) ts.length c4]), .int .i64 ((mm : Int) + 1)]) (by simp [results, Tryd.results38, go_sem, y0, y1, y2, y3, y4, y5, y6, y7, y8]) rfl FIN.out

theorem rel_any : ∀ t : Tm, relC t := Tm.ind rel_of
end Go.Proofs.YtjpmlmdbldcbjaaDoor

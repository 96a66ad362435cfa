/- The specification's l12Simple. -/
import Derived.Test.YtjpmlmdbldcbjaaDoorQG25
import Derived.Test.YtjpmlmdbldcbjaaDoorQG1
namespace Go.Proofs.YtjpmlmdbldcbjaaDoor
open Go.RowKit

def simC (t : Tm) : Prop := ∀ (v : Value) (fp : List Nat) (w : World), t.At w v fp → gdM t → t.sz ≤ 1048576 → Calls Tryd.prog 23 #[v] w (MadeX w (lvT nxI (chR rsS) 0 t))

/-- A cast undoes the injection that is its operand. -/
def bkB : Tm → Bool
  | .mk _ _ _ ty fr _ ts => decide (kdM (headT ts) = 14) && decide (kdY (tyTm (headT ts)) = 1) && decide (kdY fr = 1) && tyEq (frTm (headT ts)) ty

theorem kdY_at {w : World} {t : Ty} {k : Int} {s : Value} {f : List Nat} (h : t.At w (.agg #[.int .i64 k, s]) f) : kdY t = k := by
  obtain ⟨kk, tt, rfl⟩ := t.shape
  obtain ⟨s, e, _⟩ := Ty.at_mk.1 h
  cases e
  rfl

set_option linter.unusedVariables false in
set_option linter.unusedSimpArgs false in
set_option maxRecDepth 100000 in
set_option maxHeartbeats 4000000 in
theorem l12Back_any (t : Tm) (v : Value) (fp : List Nat) (w : World) (hat : t.At w v fp) (hg : 0 < (ksTm t).length) : Calls Tryd.prog 48 #[v] w fun e w' => e = .returned (.bool (bkB t)) ∧ Below w.heap.size w w' := by
  obtain ⟨k, nm, num, ty, fr, lb, ts, rfl⟩ := t.shape
  obtain ⟨k1, n1, a1, c1, k2, n2, a2, c2, a3, c3, f1, f2, f3, rfl, hnm, ht1, ht2, rfl, hs⟩ := hat.parts
  simp only [ksTm] at hg
  obtain ⟨b, o, q0, q1, q2, q3, q4, q5, q6, q7, q8, q9, q10, q11, q12, q13, q14, g, rfl, -, hcc, hmm, hblt, d0, d1, d2, d3, d4, d5, d6, d7, d8, hdat, hsub⟩ := headAt hs hg
  have hpos : (0 : Int) < (ts.length : Int) := by omega
  have hk2 := kdY_at ht2
  obtain ⟨xk, xnm, xnum, xty, xfr, xlb, xs, hx⟩ := (headT ts).shape
  rw [hx] at hdat
  obtain ⟨u1, u2, u3, u4, u5, u6, u7, u8, u9, u10, h1f, h2f, h3f, hu, hxn, hx1, hx2, rfl, hxs⟩ := hdat.parts
  simp only [Value.agg.injEq, Array.mk.injEq, List.cons.injEq, Value.int.injEq, Value.string.injEq, Value.slice.injEq, true_and, and_true] at hu
  obtain ⟨rfl, rfl, rfl, rfl, ⟨rfl, rfl, rfl⟩, rfl, ⟨rfl, rfl, rfl⟩, rfl, rfl, rfl, rfl⟩ := hu
  have hq3 := kdY_at hx1
  have HB := hid (show bkB (.mk k nm num ty fr lb ts) = (decide (q0 = 14) && decide (q3 = 1) && decide (k2 = 1) && tyEq xfr ty) from by
    simp only [bkB, hx, kdM, tyTm, frTm, hq3, hk2])
  have HTS := hid (fun (W : World) (h : Below w.heap.size w W) => specTypeSame xfr ty _ _ _ _ W (hx2.below h) (ht1.below h))
  generalize bkB (.mk k nm num ty fr lb ts) = R at *
  generalize tyEq xfr ty = tt at *
  clear hat hs hdat hx hx1 hx2 hxs ht1 ht2 hnm hxn hk2 hq3
  by_cases h1 : q0 = 14
  case neg =>
    have h1' : (q0 == 14) = false := by simpa using h1
    have HR := hid (show R = false from by rw [HB.out]; simp [h1])
    go_enter Tryd.func48, Tryd.ntmps48
    go_wp2_with fail
    go_ret
    exact ⟨by rw [HR.out]; first | done | rfl, ((Below.refl _ _).alloc (Nat.le_refl _) _).alloc (by simp) _⟩
  subst h1
  by_cases h2 : q3 = 1
  case neg =>
    have h2' : (q3 == 1) = false := by simpa using h2
    have HR := hid (show R = false from by rw [HB.out]; simp [h2])
    go_enter Tryd.func48, Tryd.ntmps48
    go_wp2_with fail
    go_ret
    exact ⟨by rw [HR.out]; first | done | rfl, ((Below.refl _ _).alloc (Nat.le_refl _) _).alloc (by simp) _⟩
  subst h2
  by_cases h3 : k2 = 1
  case neg =>
    have h3' : (k2 == 1) = false := by simpa using h3
    have HR := hid (show R = false from by rw [HB.out]; simp [h3])
    go_enter Tryd.func48, Tryd.ntmps48
    go_wp2_with fail
    go_ret
    exact ⟨by rw [HR.out]; first | done | rfl, ((Below.refl _ _).alloc (Nat.le_refl _) _).alloc (by simp) _⟩
  subst h3
  have HR := hid (HB.out.trans (show _ = tt by simp))
  go_enter Tryd.func48, Tryd.ntmps48
  go_wp2_with fail
  refine (HTS.out _ (((Below.refl _ _).alloc (Nat.le_refl _) _).alloc (by simp) _)).mono ?_
  rintro e w4 ⟨rfl, hb4⟩
  have hb := below_trans (((Below.refl w.heap.size w).alloc (Nat.le_refl _) _).alloc (by simp) _) hb4
  go_wp2_with fail
  go_ret
  exact ⟨by rw [HR.out]; first | done | rfl, hb⟩

/-- The result's last stores. -/
theorem sim_close {w wr : World} {u : Tm} {vs : List Value} {g : List Nat} (h : u.At wr (.agg vs.toArray) g) (hg : ∀ x ∈ g, w.heap.size + 1 < x) (hb : Below w.heap.size w wr) : MadeX w u (.returned (.agg (Array.mk vs))) (put wr (w.heap.size + 1) 0 vs) :=
  ⟨_, g, rfl, h.congr fun x hx o => World.cell?_of_block (w := wr) (a := ⟨x, o, none⟩) (heap_put_ne (show x ≠ w.heap.size + 1 by have := hg x hx; omega)), fun x hx => by have := hg x hx; omega, below_put hb (by omega)⟩

set_option linter.unusedVariables false in
set_option linter.unusedSimpArgs false in
set_option maxRecDepth 100000 in
set_option maxHeartbeats 4000000 in
theorem sim_of (k : Int) (nm : ByteArray) (num : Int) (ty fr : Ty) (lb : Int) (ts : List Tm) (ih : ∀ t ∈ ts, simC t) : simC (.mk k nm num ty fr lb ts) := by
  intro v fp w hat hgd hsz
  have hltA := hat.lt
  have hat0 := hat
  obtain ⟨k1, n1, a1, c1, k2, n2, a2, c2, a3, c3, f1, f2, f3, rfl, hnm, ht1, ht2, rfl, hs⟩ := hat.parts
  have hb0 : Below w.heap.size w ((w.alloc (Obj.cells #[.int .i64 k, .string nm, .int .i64 num, .int .i64 k1, .slice a1 n1 c1, .int .i64 k2, .slice a2 n2 c2, .int .i64 lb, .slice a3 ts.length c3] 34)).alloc (Obj.cells #[.int .i64 0, .string ⟨#[]⟩, .int .i64 0, .int .i64 0, .slice none 0 0, .int .i64 0, .slice none 0 0, .int .i64 0, .slice none 0 0] 34)) := ((Below.refl _ _).alloc (Nat.le_refl _) _).alloc (by simp) _
  have hs0 : ((w.alloc (Obj.cells #[.int .i64 k, .string nm, .int .i64 num, .int .i64 k1, .slice a1 n1 c1, .int .i64 k2, .slice a2 n2 c2, .int .i64 lb, .slice a3 ts.length c3] 34)).alloc (Obj.cells #[.int .i64 0, .string ⟨#[]⟩, .int .i64 0, .int .i64 0, .slice none 0 0, .int .i64 0, .slice none 0 0, .int .i64 0, .slice none 0 0] 34)).heap.size = w.heap.size + 1 + 1 := by simp
  obtain ⟨hB0, hZ0⟩ := two_out (Below.refl ((w.alloc (Obj.cells #[.int .i64 k, .string nm, .int .i64 num, .int .i64 k1, .slice a1 n1 c1, .int .i64 k2, .slice a2 n2 c2, .int .i64 lb, .slice a3 ts.length c3] 34)).alloc (Obj.cells #[.int .i64 0, .string ⟨#[]⟩, .int .i64 0, .int .i64 0, .slice none 0 0, .int .i64 0, .slice none 0 0, .int .i64 0, .slice none 0 0] 34)).heap.size ((w.alloc (Obj.cells #[.int .i64 k, .string nm, .int .i64 num, .int .i64 k1, .slice a1 n1 c1, .int .i64 k2, .slice a2 n2 c2, .int .i64 lb, .slice a3 ts.length c3] 34)).alloc (Obj.cells #[.int .i64 0, .string ⟨#[]⟩, .int .i64 0, .int .i64 0, .slice none 0 0, .int .i64 0, .slice none 0 0, .int .i64 0, .slice none 0 0] 34)))
  have HCP := hid (l2Copy_any _ _ _ ((w.alloc (Obj.cells #[.int .i64 k, .string nm, .int .i64 num, .int .i64 k1, .slice a1 n1 c1, .int .i64 k2, .slice a2 n2 c2, .int .i64 lb, .slice a3 ts.length c3] 34)).alloc (Obj.cells #[.int .i64 0, .string ⟨#[]⟩, .int .i64 0, .int .i64 0, .slice none 0 0, .int .i64 0, .slice none 0 0, .int .i64 0, .slice none 0 0] 34)) (hat.below hb0) hsz)
  simp only [gdM] at hgd
  have hszs : ts.length + szML ts ≤ 1048576 := by simp only [Tm.sz] at hsz; omega
  have hLT : lvT nxI (chR rsS) 0 (.mk k nm num ty fr lb ts) = fstR rsS (.mk k nm num ty fr lb (lvL nxI (chR rsS) 0 ts)) := by
    rw [lvT, lvNL_I]; rfl
  have hll := lvL_len nxI (chR rsS) ts 0
  have hgl : ∀ (j : Nat) (h : j < ts.length) (h' : j < (lvL nxI (chR rsS) 0 ts).length), (lvL nxI (chR rsS) 0 ts)[j] = lvT nxI (chR rsS) 0 ts[j] := fun j h h' => by
    rw [lvL_get nxI (chR rsS) ts 0 j h h', lvNL_I]
  have hgdu : gdL (lvL nxI (chR rsS) 0 ts) := gdL_lv nxI (chR rsS) (fun _ _ => gd_fst gd_rsS) ts 0 hgd.2
  rw [hLT]
  generalize lvL nxI (chR rsS) 0 ts = us at *
  have HIH := hid (fun (j : Nat) (h : j < ts.length) (h' : j < us.length) (v : Value) (fp : List Nat) (W : World) (hat : ts[j].At W v fp) => (show Calls Tryd.prog 23 #[v] W (MadeX W us[j]) from by
    rw [hgl j h h']
    exact ih _ (List.getElem_mem h) v fp W hat (gdL_mem hgd.2 _ (List.getElem_mem h)) (by have := sz_mem (List.getElem_mem h); omega)))
  generalize hE : fstR rsS (.mk k nm num ty fr lb us) = EE
  clear hLT hgl ih hat
  go_enter Tryd.func23, Tryd.ntmps23
  go_upto_region 1 with (fail)
  generalize ((w.alloc (Obj.cells #[.int .i64 k, .string nm, .int .i64 num, .int .i64 k1, .slice a1 n1 c1, .int .i64 k2, .slice a2 n2 c2, .int .i64 lb, .slice a3 ts.length c3] 34)).alloc (Obj.cells #[.int .i64 0, .string ⟨#[]⟩, .int .i64 0, .int .i64 0, .slice none 0 0, .int .i64 0, .slice none 0 0, .int .i64 0, .slice none 0 0] 34)) = W1 at HCP hB0 hZ0 hb0 hs0 ⊢
  obtain ⟨x0, x1, x2, x3, x4, x5, x6, x7, x8⟩ := cells9 hB0
  go_wp2_with fail
  refine HCP.out.mono ?_
  rintro e w1 ⟨v1, fo, rfl, ho, hfo, hb1⟩
  obtain ⟨j1, m1, p1, d1, j2, m2, p2, d2, a4, c4, g1, g2, g3, rfl, -, hy1, hy2, rfl, hos⟩ := ho.parts
  have hal : Below w1.heap.size w1 (w1.alloc (Obj.cells #[.int .i64 k, .string nm, .int .i64 num, .int .i64 j1, .slice p1 m1 d1, .int .i64 j2, .slice p2 m2 d2, .int .i64 lb, .slice a4 ts.length c4] 34)) := (Below.refl _ _).alloc (Nat.le_refl _) _
  have hO := alloc_new w1 (Obj.cells #[.int .i64 k, .string nm, .int .i64 num, .int .i64 j1, .slice p1 m1 d1, .int .i64 j2, .slice p2 m2 d2, .int .i64 lb, .slice a4 ts.length c4] 34)
  have hB := blk (blk hB0 hb1) hal
  have hZ := blk (blk hZ0 hb1) hal
  have hbw := below_trans (below_trans hb0 hb1) hal
  have hOs : w.heap.size + 1 + 1 ≤ w1.heap.size := by have := hb1.size; omega
  have hO2 : w1.heap.size < (w1.alloc (Obj.cells #[.int .i64 k, .string nm, .int .i64 num, .int .i64 j1, .slice p1 m1 d1, .int .i64 j2, .slice p2 m2 d2, .int .i64 lb, .slice a4 ts.length c4] 34)).heap.size := by simp
  have hflt : ∀ x ∈ g1 ++ (g2 ++ g3), x < w1.heap.size := fun x hx => (hfo.2 x hx).2.1
  have hfge : ∀ x ∈ g1 ++ (g2 ++ g3), w.heap.size + 1 < x := fun x hx => by have := hfo.ge x hx; omega
  replace hy1 := hy1.below hal
  replace hy2 := hy2.below hal
  replace hos := hos.below hal
  have hfz := (hfo.below hal)
  have hs2 := hs.below hbw
  replace ht1 := ht1.below hbw
  replace ht2 := ht2.below hbw
  clear x0 x1 x2 x3 x4 x5 x6 x7 x8 hB0 hZ0 hb1 hb0 HCP ho
  go_upto_region 2 with (fail)
  generalize hx : w1.alloc (Obj.cells #[.int .i64 k, .string nm, .int .i64 num, .int .i64 j1, .slice p1 m1 d1, .int .i64 j2, .slice p2 m2 d2, .int .i64 lb, .slice a4 ts.length c4] 34) = W2 at hO hB hZ hbw hO2 hy1 hy2 hos hfz hs2 ht1 ht2 ⊢
  generalize hO1 : w1.heap.size = O at hO hOs hO2 hflt ⊢
  clear hal hx hO1 hfo hs0
  rcases hos with ⟨rfl, rfl, a4', c4', e4⟩ | ⟨b, o, cap, f0, e4, hp, hc4, hm4, hl0, rfl⟩
  · cases e4
    obtain rfl : us = [] := List.length_eq_zero_iff.1 (by simpa using hll)
    have hk : k ≠ 14 := fun e => by have := (hgd.1 e).1; simp at this
    have hk' : (k == 14) = false := by simpa using hk
    obtain rfl : EE = .mk k nm num ty fr lb [] := by rw [← hE]; simp [rsS, fstR, ruE, ruB, hk]
    obtain ⟨x0, x1, x2, x3, x4, x5, x6, x7, x8⟩ := cells9 hB
    go_wp2_with fail
    go_loopw [4] (fun i wr => i = .int .i64 0 ∧ wr = W2) (fun _ _ => 0)
    case atStart => exact ⟨rfl, rfl⟩
    case round =>
      obtain ⟨rfl, rfl⟩ := hrel
      obtain ⟨u0, u1, u2, u3, u4, u5, u6, u7, u8⟩ := cells9 hO
      obtain ⟨y0, y1, y2, y3, y4, y5, y6, y7, y8⟩ := cells9 hZ
      have yz := fun o => frozen_of_block (o := o) hZ
      have hM := lt_of_block hZ
      have FIN := hid (sim_close (vs := [.int .i64 k, .string nm, .int .i64 num, .int .i64 j1, .slice p1 m1 d1, .int .i64 j2, .slice p2 m2 d2, .int .i64 lb, .slice a4 0 c4]) (Tm.at_mk.2 ⟨_, _, _, _, _, g1, g2, [], rfl, hnm, hy1, hy2, rfl, .inl ⟨rfl, rfl, _, _, rfl⟩⟩) (fun x hx => hfge x (by simpa using hx)) hbw)
      simp only [put, Nat.zero_add, Nat.reduceAdd] at FIN
      go_wp2_with fail
      exact bodyPost_ret (v := .agg (Array.mk [.int .i64 k, .string nm, .int .i64 num, .int .i64 j1, .slice p1 m1 d1, .int .i64 j2, .slice p2 m2 d2, .int .i64 lb, .slice a4 0 c4])) (by simp [results, Tryd.results23, go_sem, y0, y1, y2, y3, y4, y5, y6, y7, y8]) rfl FIN.out
  · cases e4
    have hbO : b < O := hflt b (by simp)
    have hbS : w.heap.size + 1 < b := hfge b (by simp)
    have hnd := hfz.1
    have hbf : b ∉ f0 := by
      have := (List.nodup_append.1 (List.nodup_append.1 hnd).2.1).2.1
      exact (List.nodup_cons.1 this).1
    have hbg1 : ∀ x ∈ g1, x ∉ [b] := fun x hx hm => by
      rw [List.mem_singleton] at hm
      exact (List.nodup_append.1 hnd).2.2 x hx b (by simp) hm
    have hbg2 : ∀ x ∈ g2, x ∉ [b] := fun x hx hm => by
      rw [List.mem_singleton] at hm
      exact (List.nodup_append.1 (List.nodup_append.1 hnd).2.1).2.2 x hx b (by simp) hm
    have hz2 : ∀ o, W2.frozen? ⟨b, o, none⟩ = false := (hfz.2 b (by simp)).2.2
    obtain ⟨ae, ce, hse, hcc, hmm, -⟩ := hs2.open
    cases hse
    -- what stands while only the operands' block is written
    have HFR := hid (fun (W : World) (h : Only [b] W2 W) => (show W.heap[w.heap.size]? = some (Obj.cells #[.int .i64 k, .string nm, .int .i64 num, .int .i64 k1, .slice a1 n1 c1, .int .i64 k2, .slice a2 n2 c2, .int .i64 lb, .slice a3 ts.length c3] 34) ∧ W.heap[w.heap.size + 1]? = some (Obj.cells #[.int .i64 0, .string ⟨#[]⟩, .int .i64 0, .int .i64 0, .slice none 0 0, .int .i64 0, .slice none 0 0, .int .i64 0, .slice none 0 0] 34) ∧ W.heap[O]? = some (Obj.cells #[.int .i64 k, .string nm, .int .i64 num, .int .i64 j1, .slice p1 m1 d1, .int .i64 j2, .slice p2 m2 d2, .int .i64 lb, .slice (some ⟨b, o, none⟩) ts.length c4] 34) ∧ Below w.heap.size w W from
      ⟨(h.block _ (by omega) (by simp; omega)).trans hB, (h.block _ (by omega) (by simp; omega)).trans hZ, (h.block _ hO2 (by simp; omega)).trans hO, ⟨h.os.trans hbw.os, h.tape.trans hbw.tape, h.output.trans hbw.output, Nat.le_trans hbw.size h.size, fun i hi => (h.block i (Nat.lt_of_lt_of_le hi hbw.size) (by simp; omega)).trans (hbw.block i hi)⟩⟩))
    have HKS := hid (fun (W : World) (h : Only [b] W2 W) => hs2.onlyLs h (fun x hx => by have := hltA x (by simp [hx]); simp; omega))
    have HT1 := hid (fun (W : World) (h : Only [b] W2 W) => ht1.onlyLs h (fun x hx => by have := hltA x (by simp [hx]); simp; omega))
    have HT2 := hid (fun (W : World) (h : Only [b] W2 W) => ht2.onlyLs h (fun x hx => by have := hltA x (by simp [hx]); simp; omega))
    have HY1 := hid (fun (W : World) (h : Only [b] W2 W) => hy1.onlyLs h hbg1)
    have HY2 := hid (fun (W : World) (h : Only [b] W2 W) => hy2.onlyLs h hbg2)
    have HF0 := hid (And.intro hl0 (And.intro hbf (fun x (hx : x ∈ f0) => (show w.heap.size + 2 ≤ x by have := hfge x (by simp [hx]); omega))))
    have HGE := hid hfge
    have HZ2 := hid hz2
    have HGD := hid (And.intro hgd hgdu)
    have HNM := hid hnm
    have HE := hid hE
    have HLL := hid hll
    have hts : ts.length ≤ 1048576 := by omega
    have HW := hid hbw
    have hs2w : w.heap.size + 2 ≤ W2.heap.size := by omega
    clear hB hZ hO hbw hs2 ht1 ht2 hy1 hy2 hl0 hbf hbg1 hbg2 hz2 hfz hnd hfge hflt hgd hgdu hnm hE hll hs hltA hat0
    have hE0 := (HFR.out W2 (Only.refl _ _)).1
    obtain ⟨x0, x1, x2, x3, x4, x5, x6, x7, x8⟩ := cells9 hE0
    clear hE0
    go_wp2_with fail
    go_loopw [4] (fun i wr => ∃ (j : Nat) (f : List Nat), j ≤ ts.length ∧ i = .int .i64 j ∧ Tm.AtL wr (cuM us ts j) b o f ∧ b ∉ f ∧ (∀ x ∈ f, w.heap.size + 2 ≤ x) ∧ Only [b] W2 wr) (fun i _ => ts.length - (intOf i).toNat)
    case atStart => exact ⟨0, f0, Nat.zero_le _, rfl, by rw [cuM_zero]; exact HF0.out.1, HF0.out.2.1, HF0.out.2.2, Only.refl _ _⟩
    case round =>
      obtain ⟨j, f, hj, rfl, hl, hbf, hfS, hon⟩ := hrel
      clear x0 x1 x2 x3 x4 x5 x6 x7 x8
      obtain ⟨hB, hZ, hO, hbw⟩ := HFR.out wr hon
      obtain ⟨x0, x1, x2, x3, x4, x5, x6, x7, x8⟩ := cells9 hB
      by_cases hlk : j < ts.length
      · have hlu : j < us.length := by rw [HLL.out]; exact hlk
        have hcl : j < (cuM us ts j).length := by rw [cuM_len HLL.out hj]; exact hlk
        obtain ⟨cs, gj, hcs, hatj, -⟩ := Tm.atL_get hl j hcl
        obtain ⟨s0, s1, s2, s3, s4, s5, s6, s7, s8, s9, s10, s11, s12, s13, s14, e⟩ := hatj.agg
        cases e
        have t0 := hcs 0 (by omega)
        have t1 := hcs 1 (by omega)
        have t2 := hcs 2 (by omega)
        have t3 := hcs 3 (by omega)
        have t4 := hcs 4 (by omega)
        have t5 := hcs 5 (by omega)
        have t6 := hcs 6 (by omega)
        have t7 := hcs 7 (by omega)
        have t8 := hcs 8 (by omega)
        have hlb : b < wr.heap.size := World.block_lt_of_cell? _ _ t0
        obtain ⟨a3', c3', e3, -, -, hget⟩ := (HKS.out wr hon).open
        simp only [Value.slice.injEq, true_and] at e3
        obtain ⟨rfl, rfl⟩ := e3
        obtain ⟨be, oe, q0, q1, q2, q3, q4, q5, q6, q7, q8, q9, q10, q11, q12, q13, q14, fk, rfl, hblt, d0, d1, d2, d3, d4, d5, d6, d7, d8, hatk, -⟩ := hget j hlk
        obtain ⟨u0, u1, u2, u3, u4, u5, u6, u7, u8⟩ := cells9 hO
        have HS := hid (fun (W : World) (h : Below wr.heap.size wr W) => (show W.cell? ⟨O, 8, none⟩ = some (.slice (some ⟨b, o, none⟩) ts.length c4) ∧ W.cell? ⟨w.heap.size, 8, none⟩ = some (.slice (some ⟨be, oe, none⟩) ts.length c3) ∧ W.cell? ⟨be, oe + j * 9, none⟩ = some (.int .i64 q0) ∧ W.cell? ⟨be, oe + j * 9 + 1, none⟩ = some (.string q1) ∧ W.cell? ⟨be, oe + j * 9 + 2, none⟩ = some (.int .i64 q2) ∧ W.cell? ⟨be, oe + j * 9 + 3, none⟩ = some (.int .i64 q3) ∧ W.cell? ⟨be, oe + j * 9 + 4, none⟩ = some (.slice q5 q4 q6) ∧ W.cell? ⟨be, oe + j * 9 + 5, none⟩ = some (.int .i64 q7) ∧ W.cell? ⟨be, oe + j * 9 + 6, none⟩ = some (.slice q9 q8 q10) ∧ W.cell? ⟨be, oe + j * 9 + 7, none⟩ = some (.int .i64 q11) ∧ W.cell? ⟨be, oe + j * 9 + 8, none⟩ = some (.slice q13 q12 q14) from ⟨cell_keep u8 h, cell_keep x8 h, cell_keep d0 h, cell_keep d1 h, cell_keep d2 h, cell_keep d3 h, cell_keep d4 h, cell_keep d5 h, cell_keep d6 h, cell_keep d7 h, cell_keep d8 h⟩))
        have HY := hid (fun (W : World) (h : Below wr.heap.size wr W) => (show W.cell? ⟨b, o + j * 9, none⟩ = some (.int .i64 s0) ∧ W.cell? ⟨b, o + j * 9 + 1, none⟩ = some (.string s1) ∧ W.cell? ⟨b, o + j * 9 + 2, none⟩ = some (.int .i64 s2) ∧ W.cell? ⟨b, o + j * 9 + 3, none⟩ = some (.int .i64 s3) ∧ W.cell? ⟨b, o + j * 9 + 4, none⟩ = some (.slice s5 s4 s6) ∧ W.cell? ⟨b, o + j * 9 + 5, none⟩ = some (.int .i64 s7) ∧ W.cell? ⟨b, o + j * 9 + 6, none⟩ = some (.slice s9 s8 s10) ∧ W.cell? ⟨b, o + j * 9 + 7, none⟩ = some (.int .i64 s11) ∧ W.cell? ⟨b, o + j * 9 + 8, none⟩ = some (.slice s13 s12 s14) from ⟨cell_keep t0 h, cell_keep t1 h, cell_keep t2 h, cell_keep t3 h, cell_keep t4 h, cell_keep t5 h, cell_keep t6 h, cell_keep t7 h, cell_keep t8 h⟩))
        have HFZ := hid (fun (W : World) (h : Below wr.heap.size wr W) => (show ∀ o, W.frozen? ⟨b, o, none⟩ = false from fun o => (h.frozen (p := ⟨b, o, none⟩) hlb).trans ((hon.frozen b o (by omega)).trans (HZ2.out o))))
        have HLB := hid hlb
        have HCL := hid (fun (W : World) (h : Below wr.heap.size wr W) => HIH.out j hlk hlu _ _ W (hatk.below h))
        have HRR := hid (fun (w4 : World) (g : List Nat) (vs : List Value) (hb : Below wr.heap.size wr w4) (hu : (us[j]).At w4 (.agg vs.toArray) g) (hg : ∀ x ∈ g, wr.drew.heap.size ≤ x) => row_round (S := w.heap.size + 2) HLL.out hlk hlu hl hbf hfS hon (by omega) (by omega) hb hu hg)
        have hj0 : (0 : Int) ≤ (j : Int) := by omega
        have hj1 : (j : Int) < (ts.length : Int) := by omega
        clear hl hbf hfS hB hZ hO hbw hget hatk hatj hcs hcl
        clear t0 t1 t2 t3 t4 t5 t6 t7 t8 d0 d1 d2 d3 d4 d5 d6 d7 d8
        generalize us[j] = uj at *
        go_wp2_with fail
        refine regionL (s := 10) (S0 := (fun w' => w'.cell? ⟨O, 8, none⟩ = some (.slice (some ⟨b, o, none⟩) ts.length c4) ∧ w'.cell? ⟨w.heap.size, 8, none⟩ = some (.slice (some ⟨be, oe, none⟩) ts.length c3) ∧ w'.cell? ⟨be, oe + j * 9, none⟩ = some (.int .i64 q0) ∧ w'.cell? ⟨be, oe + j * 9 + 1, none⟩ = some (.string q1) ∧ w'.cell? ⟨be, oe + j * 9 + 2, none⟩ = some (.int .i64 q2) ∧ w'.cell? ⟨be, oe + j * 9 + 3, none⟩ = some (.int .i64 q3) ∧ w'.cell? ⟨be, oe + j * 9 + 4, none⟩ = some (.slice q5 q4 q6) ∧ w'.cell? ⟨be, oe + j * 9 + 5, none⟩ = some (.int .i64 q7) ∧ w'.cell? ⟨be, oe + j * 9 + 6, none⟩ = some (.slice q9 q8 q10) ∧ w'.cell? ⟨be, oe + j * 9 + 7, none⟩ = some (.int .i64 q11) ∧ w'.cell? ⟨be, oe + j * 9 + 8, none⟩ = some (.slice q13 q12 q14))) (S1 := (fun _ => True)) (by kernel_rfl) (HS.out _ (below_drew wr)) (trivial) (fun hS0 => ?_)
        refine takeL0 (i := 0) (v := ?v1) rfl rfl (by kernel_rfl) (by kernel_rfl) (by kernel_rfl) (by decide) (by kernel_rfl) (by kernel_rfl) (fun _ _ _ h => h) (Or.inl ⟨by rfl, ?hy1⟩) (by assumption) ?_
        case hy1 => (intro w hSw; (try dsimp only at hSw); go_simp; (try with_reducible rfl))
        try simp only [Act.put, List.setIfInBounds_toArray, List.set_cons_zero, List.set_cons_succ]
        refine takeL0 (i := 1) (v := ?v2) rfl rfl (by kernel_rfl) (by kernel_rfl) (by kernel_rfl) (by decide) (by kernel_rfl) (by kernel_rfl) (fun _ _ _ h => h) (Or.inl ⟨by rfl, ?hy2⟩) (by assumption) ?_
        case hy2 => (intro w hSw; (try dsimp only at hSw); go_simp; (try with_reducible rfl))
        try simp only [Act.put, List.setIfInBounds_toArray, List.set_cons_zero, List.set_cons_succ]
        refine takeL0 (i := 2) (v := ?v3) rfl rfl (by kernel_rfl) (by kernel_rfl) (by kernel_rfl) (by decide) (by kernel_rfl) (by kernel_rfl) (fun _ _ _ h => h) (Or.inl ⟨by rfl, ?hy3⟩) (by assumption) ?_
        case hy3 => (intro w hSw; (try dsimp only at hSw); go_simp; (try with_reducible rfl))
        try simp only [Act.put, List.setIfInBounds_toArray, List.set_cons_zero, List.set_cons_succ]
        refine takeL0 (i := 3) (v := ?v4) rfl rfl (by kernel_rfl) (by kernel_rfl) (by kernel_rfl) (by decide) (by kernel_rfl) (by kernel_rfl) (fun _ _ _ h => h) (Or.inl ⟨by rfl, ?hy4⟩) (by assumption) ?_
        case hy4 => (intro w hSw; (try dsimp only at hSw); go_simp; (try with_reducible rfl))
        try simp only [Act.put, List.setIfInBounds_toArray, List.set_cons_zero, List.set_cons_succ]
        refine takeL0 (i := 4) (v := ?v5) rfl rfl (by kernel_rfl) (by kernel_rfl) (by kernel_rfl) (by decide) (by kernel_rfl) (by kernel_rfl) (fun _ _ _ h => h) (Or.inl ⟨by rfl, ?hy5⟩) (by assumption) ?_
        case hy5 => (intro w hSw; (try dsimp only at hSw); go_simp; (try with_reducible rfl))
        try simp only [Act.put, List.setIfInBounds_toArray, List.set_cons_zero, List.set_cons_succ]
        refine takeL0 (i := 5) (v := ?v6) rfl rfl (by kernel_rfl) (by kernel_rfl) (by kernel_rfl) (by decide) (by kernel_rfl) (by kernel_rfl) (fun _ _ _ h => h) (Or.inl ⟨by rfl, ?hy6⟩) (by assumption) ?_
        case hy6 => (intro w hSw; (try dsimp only at hSw); go_simp; (try with_reducible rfl))
        try simp only [Act.put, List.setIfInBounds_toArray, List.set_cons_zero, List.set_cons_succ]
        refine takeL0 (i := 6) (v := ?v7) rfl rfl (by kernel_rfl) (by kernel_rfl) (by kernel_rfl) (by decide) (by kernel_rfl) (by kernel_rfl) (fun _ _ _ h => h) (Or.inl ⟨by rfl, ?hy7⟩) (by assumption) ?_
        case hy7 => (intro w hSw; (try dsimp only at hSw); go_simp; (try with_reducible rfl))
        try simp only [Act.put, List.setIfInBounds_toArray, List.set_cons_zero, List.set_cons_succ]
        refine takeL0 (i := 7) (v := ?v8) rfl rfl (by kernel_rfl) (by kernel_rfl) (by kernel_rfl) (by decide) (by kernel_rfl) (by kernel_rfl) (fun _ _ _ h => h) (Or.inl ⟨by rfl, ?hy8⟩) (by assumption) ?_
        case hy8 => (intro w hSw; (try dsimp only at hSw); go_simp; (try with_reducible rfl))
        try simp only [Act.put, List.setIfInBounds_toArray, List.set_cons_zero, List.set_cons_succ]
        refine readyL (rs := [8]) (by kernel_rfl) (by simp) ?_
        refine AllReadyL.cons rfl (fun K hK => ?_) AllReadyL.nil
        go_simp
        refine (HCL.out _ (below_drew wr)).mono ?_
        rintro e w4 ⟨v4, g4, rfl, hu4, hin4, hb4⟩
        obtain ⟨r0, r1, r2, r3, r4, r5, r6, r7, r8, r9, r10, r11, r12, r13, r14, rfl⟩ := hu4.agg
        have hk4 := below_trans (below_drew wr) hb4
        refine hK.out _ _ ?_ (fun hS1 => ?_)
        · exact ⟨trivial, fun _ => HS.out _ hk4⟩
        clear hK K hS0
        try simp only [Act.put, List.setIfInBounds_toArray, List.set_cons_zero, List.set_cons_succ]
        refine takeL0 (i := 9) (v := ?v9) rfl rfl (by kernel_rfl) (by kernel_rfl) (by kernel_rfl) (by decide) (by kernel_rfl) (by kernel_rfl) (fun _ _ _ h => h) (Or.inl ⟨by rfl, ?hy9⟩) (by assumption) ?_
        case hy9 => (intro w hSw; (try dsimp only at hSw); go_simp; (try with_reducible rfl))
        try simp only [Act.put, List.setIfInBounds_toArray, List.set_cons_zero, List.set_cons_succ]
        refine readyL (rs := [10]) (by kernel_rfl) (by simp) ?_
        refine AllReadyL.cons rfl (fun K hK => ?_) AllReadyL.nil
        obtain ⟨y0, y1, y2, y3, y4, y5, y6, y7, y8⟩ := HY.out _ hk4
        have yz := HFZ.out _ hk4
        have hlb : b < w4.heap.size := Nat.lt_of_lt_of_le HLB.out hk4.size
        go_simp
        refine hK.out _ _ ?_ (fun hS2 => ?_)
        · exact ⟨trivial, fun h => absurd (h.symm.trans (show _ = true by kernel_rfl)) (by decide)⟩
        clear hK K hS1
        try simp only [Act.put, List.setIfInBounds_toArray, List.set_cons_zero, List.set_cons_succ]
        refine doneL (by kernel_rfl) ?_ _
        have HN := hid (HRR.out w4 _ [.int .i64 r0, .string r1, .int .i64 r2, .int .i64 r3, .slice r5 r4 r6, .int .i64 r7, .slice r9 r8 r10, .int .i64 r11, .slice r13 r12 r14] hk4 hu4 (fun x hx => hin4 x hx))
        clear hu4 hin4 hb4 hk4 HS HY HFZ HLB HCL HRR
        go_wp2_with fail
        obtain ⟨f9, n1, n2, n3, n4⟩ := HN.out
        exact ⟨⟨j + 1, f9, by omega, by go_num, n1, n2, n3, n4⟩, by simp [intOf]; omega⟩
      · obtain rfl : j = ts.length := by omega
        rw [cuM_all HLL.out] at hl
        clear hlk hj
        have hul := HLL.out
        have hsu : SmAt wr us (.slice (some ⟨b, o, none⟩) ts.length c4) (b :: f) := .inr ⟨b, o, c4, f, by rw [hul], by omega, by omega, by unfold maxLen; omega, hl, rfl⟩
        have HOUT := hid (show (Tm.mk k nm num ty fr lb us).At wr (.agg #[.int .i64 k, .string nm, .int .i64 num, .int .i64 j1, .slice p1 m1 d1, .int .i64 j2, .slice p2 m2 d2, .int .i64 lb, .slice (some ⟨b, o, none⟩) ts.length c4]) (g1 ++ (g2 ++ (b :: f))) ∧ (∀ x ∈ g1 ++ (g2 ++ (b :: f)), w.heap.size + 1 < x) from ⟨Tm.at_mk.2 ⟨_, _, _, _, _, g1, g2, b :: f, rfl, HNM.out, HY1.out wr hon, HY2.out wr hon, rfl, hsu⟩, fun x hx => by
          simp only [List.mem_append, List.mem_cons] at hx
          rcases hx with hx | hx | rfl | hx
          · exact HGE.out x (by simp [hx])
          · exact HGE.out x (by simp [hx])
          · exact hbS
          · have := hfS x hx; omega⟩)
        have HSU := hid hsu
        have HU := hid (And.intro (HT1.out wr hon) (HT2.out wr hon))
        have HBW := hid hbw
        have HBK := hid (And.intro hB (And.intro hZ hO))
        obtain ⟨u0, u1, u2, u3, u4, u5, u6, u7, u8⟩ := cells9 hO
        obtain ⟨y0, y1, y2, y3, y4, y5, y6, y7, y8⟩ := cells9 hZ
        have yz := fun o => frozen_of_block (o := o) hZ
        have hM := lt_of_block hZ
        clear hl hbf hfS hsu hB hZ hO hbw HFR HKS HT1 HT2 HY1 HY2 HGE hon HF0 HZ2 HIH
        by_cases hk : k = 14
        case neg =>
          have hk' : (k == 14) = false := by simpa using hk
          obtain rfl : EE = .mk k nm num ty fr lb us := by rw [← HE.out]; simp [rsS, fstR, ruE, ruB, hk]
          have FIN := hid (sim_close (vs := [.int .i64 k, .string nm, .int .i64 num, .int .i64 j1, .slice p1 m1 d1, .int .i64 j2, .slice p2 m2 d2, .int .i64 lb, .slice (some ⟨b, o, none⟩) ts.length c4]) HOUT.out.1 HOUT.out.2 HBW.out)
          simp only [put, Nat.zero_add, Nat.reduceAdd] at FIN
          go_wp2_with fail
          exact bodyPost_ret (v := .agg (Array.mk [.int .i64 k, .string nm, .int .i64 num, .int .i64 j1, .slice p1 m1 d1, .int .i64 j2, .slice p2 m2 d2, .int .i64 lb, .slice (some ⟨b, o, none⟩) ts.length c4])) (by simp [results, Tryd.results23, go_sem, y0, y1, y2, y3, y4, y5, y6, y7, y8]) rfl FIN.out
        subst hk
        have hl0 : 0 < us.length := by omega
        have hpos : (0 : Int) < (ts.length : Int) := by omega
        have HEQ := hid (show EE = if tyEq fr ty = true then headT us else if bkB (.mk 14 nm num ty fr lb us) = true then headT (ksTm (headT us)) else .mk 14 nm num ty fr lb us from by
          rw [← HE.out]
          simp only [rsS, fstR, ruE, ruB, bkB, true_and]
          by_cases h1 : tyEq fr ty = true
          · simp [h1]
          · simp only [h1]
            by_cases h2 : kdY fr = 1 <;> by_cases h3 : kdM (headT us) = 14 <;> by_cases h4 : kdY (tyTm (headT us)) = 1 <;> by_cases h5 : tyEq ty (frTm (headT us)) = true <;> simp [h2, h3, h4, h5, tyEq_comm (frTm (headT us)) ty])
        have HTS := hid (specTypeSame fr ty _ _ _ _ wr HU.out.2 HU.out.1)
        have HBB := hid (fun (W : World) (h : Below wr.heap.size wr W) => l12Back_any _ _ _ W (HOUT.out.1.below h) (show 0 < us.length from hl0))
        have HXL := hid (show bkB (.mk 14 nm num ty fr lb us) = true → 0 < (ksTm (headT us)).length from fun h => by
          have hg := gdL_mem HGD.out.2 _ (headT_mem hl0)
          simp only [bkB, Bool.and_eq_true, decide_eq_true_eq] at h
          obtain ⟨xk, xnm, xnum, xty, xfr, xlb, xs, hx⟩ := (headT us).shape
          rw [hx] at hg h ⊢
          simp only [gdM] at hg
          exact (hg.1 h.1.1.1).1)
        generalize tyEq fr ty = tt at *
        generalize bkB (.mk 14 nm num ty fr lb us) = bb at *
        clear u0 u1 u2 u3 u4 u5 u6 u7 u8 y0 y1 y2 y3 y4 y5 y6 y7 y8 yz hM HE
        go_wp2_with fail
        refine HTS.out.mono ?_
        rintro e w5 ⟨rfl, hb5⟩
        have hbw5 := below_trans HBW.out hb5
        have hO5 := blk HBK.out.2.2 hb5
        have hZ5 := blk HBK.out.2.1 hb5
        clear x0 x1 x2 x3 x4 x5 x6 x7 x8
        cases tt with
        | true =>
          obtain rfl : EE = headT us := HEQ.out
          obtain ⟨b', o', r0, r1, r2, r3, r4, r5, r6, r7, r8, r9, r10, r11, r12, r13, r14, gg, e, -, hcc', hmm', hblt, d0, d1, d2, d3, d4, d5, d6, d7, d8, hdat, hsub⟩ := headAt (HSU.out.below hb5) hl0
          cases e
          obtain ⟨u0, u1, u2, u3, u4, u5, u6, u7, u8⟩ := cells9 hO5
          obtain ⟨y0, y1, y2, y3, y4, y5, y6, y7, y8⟩ := cells9 hZ5
          have yz := fun o => frozen_of_block (o := o) hZ5
          have hM := lt_of_block hZ5
          have FIN := hid (sim_close (vs := [.int .i64 r0, .string r1, .int .i64 r2, .int .i64 r3, .slice r5 r4 r6, .int .i64 r7, .slice r9 r8 r10, .int .i64 r11, .slice r13 r12 r14]) hdat (fun x hx => HOUT.out.2 x (by have := hsub.subset hx; simp only [List.mem_append]; exact .inr (.inr this))) hbw5)
          simp only [put, Nat.zero_add, Nat.reduceAdd] at FIN
          go_wp2_with fail
          exact bodyPost_ret (v := .agg (Array.mk [.int .i64 r0, .string r1, .int .i64 r2, .int .i64 r3, .slice r5 r4 r6, .int .i64 r7, .slice r9 r8 r10, .int .i64 r11, .slice r13 r12 r14])) (by simp [results, Tryd.results23, go_sem, y0, y1, y2, y3, y4, y5, y6, y7, y8]) rfl FIN.out
        | false =>
          obtain ⟨u0, u1, u2, u3, u4, u5, u6, u7, u8⟩ := cells9 hO5
          go_wp2_with fail
          refine (HBB.out w5 hb5).mono ?_
          rintro e w6 ⟨rfl, hb6⟩
          have hbw6 := below_trans hbw5 hb6
          have hO6 := blk hO5 hb6
          have hZ6 := blk hZ5 hb6
          have hb56 := below_trans hb5 hb6
          clear u0 u1 u2 u3 u4 u5 u6 u7 u8
          obtain ⟨u0, u1, u2, u3, u4, u5, u6, u7, u8⟩ := cells9 hO6
          obtain ⟨y0, y1, y2, y3, y4, y5, y6, y7, y8⟩ := cells9 hZ6
          have yz := fun o => frozen_of_block (o := o) hZ6
          have hM := lt_of_block hZ6
          cases bb with
          | true =>
            have HEE := HEQ.out
            have hxl := HXL.out rfl
            change EE = headT (ksTm (headT us)) at HEE
            obtain ⟨b', o', s0, s1, s2, s3, s4, s5, s6, s7, s8, s9, s10, s11, s12, s13, s14, gg, e, -, hcc', hmm', hblt, d0, d1, d2, d3, d4, d5, d6, d7, d8, hdat, hsub⟩ := headAt (HSU.out.below hb56) hl0
            cases e
            obtain ⟨xk, xnm, xnum, xty, xfr, xlb, xs, hx⟩ := (headT us).shape
            rw [hx] at hdat hxl HEE
            change 0 < xs.length at hxl
            change EE = headT xs at HEE
            obtain ⟨v1', v2', v3', v4', v5', v6', v7', v8', v9', v10', h1f, h2f, h3f, hu, -, -, -, rfl, hxs⟩ := hdat.parts
            simp only [Value.agg.injEq, Array.mk.injEq, List.cons.injEq, Value.int.injEq, Value.string.injEq, Value.slice.injEq, true_and, and_true] at hu
            obtain ⟨rfl, rfl, rfl, rfl, ⟨rfl, rfl, rfl⟩, rfl, ⟨rfl, rfl, rfl⟩, rfl, rfl, rfl, rfl⟩ := hu
            obtain ⟨b2, o2, r0, r1, r2, r3, r4, r5, r6, r7, r8, r9, r10, r11, r12, r13, r14, gg2, rfl, -, hcc2, hmm2, hblt2, e0, e1, e2, e3, e4, e5, e6, e7, e8, hdat2, hsub2⟩ := headAt hxs hxl
            have hpos2 : (0 : Int) < (xs.length : Int) := by omega
            rw [← HEE] at hdat2
            have hin := fun x (hx : x ∈ gg2) => hsub.subset (((hsub2.trans (List.sublist_append_right h2f h3f)).trans (List.sublist_append_right h1f (h2f ++ h3f))).subset hx)
            clear HEE hx hdat hxs
            have FIN := hid (sim_close (vs := [.int .i64 r0, .string r1, .int .i64 r2, .int .i64 r3, .slice r5 r4 r6, .int .i64 r7, .slice r9 r8 r10, .int .i64 r11, .slice r13 r12 r14]) hdat2 (fun x hx => HOUT.out.2 x (by have := hin x hx; simp only [List.mem_append]; exact .inr (.inr this))) hbw6)
            simp only [put, Nat.zero_add, Nat.reduceAdd] at FIN
            go_wp2_with fail
            exact bodyPost_ret (v := .agg (Array.mk [.int .i64 r0, .string r1, .int .i64 r2, .int .i64 r3, .slice r5 r4 r6, .int .i64 r7, .slice r9 r8 r10, .int .i64 r11, .slice r13 r12 r14])) (by simp [results, Tryd.results23, go_sem, y0, y1, y2, y3, y4, y5, y6, y7, y8]) rfl FIN.out
          | false =>
            obtain rfl : EE = .mk 14 nm num ty fr lb us := HEQ.out
            have FIN := hid (sim_close (vs := [.int .i64 14, .string nm, .int .i64 num, .int .i64 j1, .slice p1 m1 d1, .int .i64 j2, .slice p2 m2 d2, .int .i64 lb, .slice (some ⟨b, o, none⟩) ts.length c4]) (HOUT.out.1.below hb56) HOUT.out.2 hbw6)
            simp only [put, Nat.zero_add, Nat.reduceAdd] at FIN
            go_wp2_with fail
            exact bodyPost_ret (v := .agg (Array.mk [.int .i64 14, .string nm, .int .i64 num, .int .i64 j1, .slice p1 m1 d1, .int .i64 j2, .slice p2 m2 d2, .int .i64 lb, .slice (some ⟨b, o, none⟩) ts.length c4])) (by simp [results, Tryd.results23, go_sem, y0, y1, y2, y3, y4, y5, y6, y7, y8]) rfl FIN.out

theorem sim_any : ∀ t : Tm, simC t := Tm.ind sim_of
end Go.Proofs.YtjpmlmdbldcbjaaDoor

/- A term without casts and types; the program's change of one node. The program's rewriteTerm with the change that leaves out casts and types. The specification's l4Bare. -/
import Derived.Test.YtbmlodikfmpfoaaDoorRwx
import Derived.Test.YtbmlodikfmpfoaaDoorCv
import Derived.Test.YtbmlodikfmpfoaaDoorGrowM
import Derived.Test.YtbmlodikfmpfoaaDoorCopy
namespace Go.Proofs.YtbmlodikfmpfoaaDoor
open Go.RowKit

mutual
/-- The term without casts, ascriptions and types. -/
def bareT : Tm → Tm
  | .mk k nm num _ _ _ ts => if k = 13 ∨ k = 14 then bareH ts else .mk k nm num (if k = 5 then .mk 1 [] else .mk 0 []) (.mk 0 []) 0 (bareL ts)
def bareH : List Tm → Tm
  | [] => .mk 0 ByteArray.empty 0 (.mk 0 []) (.mk 0 []) 0 []
  | t :: _ => bareT t
def bareL : List Tm → List Tm
  | [] => []
  | t :: ts => bareT t :: bareL ts
end

theorem bareL_len : ∀ ts : List Tm, (bareL ts).length = ts.length
  | [] => by simp only [bareL, List.length_nil]
  | t :: ts => by simp only [bareL, List.length_cons, bareL_len ts]

theorem bareL_take : ∀ (ts : List Tm) (j : Nat) (h : j < ts.length), (bareL ts).take (j + 1) = (bareL ts).take j ++ [bareT ts[j]]
  | t :: ts, 0, _ => by simp [bareL]
  | t :: ts, j + 1, h => by
    have := bareL_take ts j (by simpa using h)
    simp only [bareL, List.take_succ_cons, List.getElem_cons_succ, List.cons_append, this]

/-- What a node of a valid term says. -/
def ndOk (k : Int) (ty fr : Ty) (lb : Int) (n : Nat) : Prop := kidsM k = (n : Int) ∧ okTy ty ∧ okTy fr ∧ (k ≠ 13 → k ≠ 14 → (k ≠ 5 → ty = .mk 0 []) ∧ fr = .mk 0 [] ∧ lb = 0)

mutual
/-- A term, plain or with casts, whose nodes are right. -/
def bOk : Tm → Prop
  | .mk k _ _ ty fr lb ts => ndOk k ty fr lb ts.length ∧ bOkL ts
def bOkL : List Tm → Prop
  | [] => True
  | t :: ts => bOk t ∧ bOkL ts
end

theorem bOkL_get : ∀ {ts : List Tm} (_ : bOkL ts) (j : Nat) (h : j < ts.length), bOk ts[j]
  | t :: ts, h, 0, _ => by simp only [bOkL] at h; exact h.1
  | t :: ts, h, j + 1, hj => by simp only [bOkL] at h; exact bOkL_get h.2 j (by simpa using hj)

theorem bOkL_all {f : Tm → Bool} : ∀ {ts : List Tm} (_ : ts.all f = true) (_ : ∀ t, f t = true → bOk t), bOkL ts
  | [], _, _ => by simp only [bOkL]
  | t :: ts, h, hf => by
    rw [List.all_cons, Bool.and_eq_true] at h
    simp only [bOkL]
    exact ⟨hf t h.1, bOkL_all h.2 hf⟩

theorem own_ok {k : Int} {nm : ByteArray} {num : Int} {ty fr : Ty} {lb : Int} (h : ownM k nm num ty fr lb = true) (h14 : k ≠ 14) : okTy ty ∧ okTy fr ∧ (k ≠ 13 → k ≠ 14 → (k ≠ 5 → ty = .mk 0 []) ∧ fr = .mk 0 [] ∧ lb = 0) := by
  have e14 : (k == 14) = false := by simpa using h14
  simp only [ownM, e14, Bool.false_or, Bool.and_eq_true, beq_iff_eq] at h
  obtain ⟨⟨⟨-, hty⟩, hfr, hlb⟩, -⟩ := h
  by_cases h5 : k = 5 ∨ k = 13 ∨ k = 14
  · rw [if_pos h5] at hty
    exact ⟨.inl (wf_of_vld hty), .inr hfr, fun h13 _ => ⟨fun h => by omega, noTy_eq hfr, hlb⟩⟩
  · rw [if_neg h5] at hty
    exact ⟨.inr hty, .inr hfr, fun _ _ => ⟨fun _ => noTy_eq hty, noTy_eq hfr, hlb⟩⟩

theorem bOk_shpM : ∀ (d : Nat) (t : Tm), shpM d t = true → bOk t
  | 0, _, h => by simp [shpM] at h
  | d + 1, .mk k nm num ty fr lb ts, h => by
    simp only [shpM, Bool.and_eq_true, beq_iff_eq] at h
    obtain ⟨⟨⟨hk, h14⟩, hown⟩, hall⟩ := h
    have h14' : k ≠ 14 := by simpa using h14
    obtain ⟨q1, q2, q3⟩ := own_ok hown h14'
    simp only [bOk, ndOk]
    exact ⟨⟨hk, q1, q2, q3⟩, bOkL_all hall (bOk_shpM d)⟩

theorem bOk_shpC : ∀ (d : Nat) (t : Tm), shpC d t = true → bOk t
  | 0, _, h => by simp [shpC] at h
  | d + 1, .mk k nm num ty fr lb ts, h => by
    simp only [shpC, Bool.and_eq_true, beq_iff_eq] at h
    obtain ⟨⟨⟨hk, -⟩, hown⟩, hall⟩ := h
    simp only [bOk, ndOk]
    by_cases h14 : k = 14
    · rw [if_pos h14] at hown
      simp only [own4, Bool.and_eq_true] at hown
      obtain ⟨⟨⟨-, hv1⟩, hv2⟩, -⟩ := hown
      exact ⟨⟨hk, .inl (wf_of_vld hv1), .inl (wf_of_vld hv2), fun _ h => absurd h14 h⟩, bOkL_all hall (bOk_shpC d)⟩
    · rw [if_neg h14] at hown
      obtain ⟨q1, q2, q3⟩ := own_ok hown h14
      exact ⟨⟨hk, q1, q2, q3⟩, bOkL_all hall (bOk_shpC d)⟩

theorem bareT_cast {k : Int} {nm : ByteArray} {num : Int} {ty fr : Ty} {lb : Int} {ts : List Tm} (h : k = 13 ∨ k = 14) (hp : 0 < ts.length) : bareT (.mk k nm num ty fr lb ts) = bareT ts[0] := by
  cases ts with
  | nil => simp at hp
  | cons t ts => simp only [bareT, if_pos h, bareH, List.getElem_cons_zero]

/-- The type of a node of the result. -/
def bty (k : Int) : Ty := if k = 5 then .mk 1 [] else .mk 0 []

/-- What the change of a node says: the node below the casts, with types of its own; its operands stay. -/
def BnOut (w : World) (t : Tm) (fp : List Nat) (e : Ending) (w' : World) : Prop :=
  ∃ k nm num ts a3 c3 f3 k1 n1 a1 c1 k2 n2 a2 c2 g1 g2, bareT t = .mk k nm num (bty k) (.mk 0 []) 0 (bareL ts) ∧ bOkL ts ∧ szML ts + ts.length ≤ t.sz ∧ nm.size ≤ 9223372036854775807 ∧ SmAt w ts (.slice a3 ts.length c3) f3 ∧ (∀ b ∈ f3, b ∈ fp) ∧
    e = .returned (.tuple #[.agg #[.int .i64 k, .string nm, .int .i64 num, .int .i64 k1, .slice a1 n1 c1, .int .i64 k2, .slice a2 n2 c2, .int .i64 0, .slice a3 ts.length c3], .bool true]) ∧
    Ty.At w' (bty k) (.agg #[.int .i64 k1, .slice a1 n1 c1]) g1 ∧ Ty.At w' (.mk 0 []) (.agg #[.int .i64 k2, .slice a2 n2 c2]) g2 ∧ Fresh w.heap.size w' (g1 ++ g2) ∧ Below w.heap.size w w'

/-- What stands ahead of a round of the loop. -/
def BnR (w : World) (t : Tm) (fp : List Nat) (u : Tm) (vs : Array Value) (fu : List Nat) (wr : World) : Prop :=
  wr.heap[w.heap.size]? = some (.cells vs 34 (0, 0)) ∧ wr.heap[w.heap.size + 1]? = some (Obj.cells #[.int .i64 0, .string ByteArray.empty, .int .i64 0, .int .i64 0, .slice none 0 0, .int .i64 0, .slice none 0 0, .int .i64 0, .slice none 0 0] 34) ∧ u.At w (.agg vs) fu ∧ (∀ b ∈ fu, b ∈ fp) ∧ bOk u ∧ bareT u = bareT t ∧ u.sz ≤ t.sz ∧ Below w.heap.size w wr

set_option maxRecDepth 100000 in
set_option maxHeartbeats 4000000 in
theorem bareNode_any (t : Tm) (v : Value) (fp : List Nat) (w : World) (hok : bOk t) (hat : t.At w v fp) : Calls Tryd.prog 61 #[v] w (BnOut w t fp) := by
  have hat0 := hat
  obtain ⟨k, nm, num, k1, n1, a1, c1, k2, n2, a2, c2, lb, n3, a3, c3, rfl⟩ := hat.agg
  have HR0 := hid (show BnR w t fp t #[.int .i64 k, .string nm, .int .i64 num, .int .i64 k1, .slice a1 n1 c1, .int .i64 k2, .slice a2 n2 c2, .int .i64 lb, .slice a3 n3 c3] fp ((w.alloc (Obj.cells #[.int .i64 k, .string nm, .int .i64 num, .int .i64 k1, .slice a1 n1 c1, .int .i64 k2, .slice a2 n2 c2, .int .i64 lb, .slice a3 n3 c3] 34)).alloc (Obj.cells #[.int .i64 0, .string ByteArray.empty, .int .i64 0, .int .i64 0, .slice none 0 0, .int .i64 0, .slice none 0 0, .int .i64 0, .slice none 0 0] 34)) from ⟨by obtain ⟨a, b⟩ := two_out (Below.refl (((w.alloc (Obj.cells #[.int .i64 k, .string nm, .int .i64 num, .int .i64 k1, .slice a1 n1 c1, .int .i64 k2, .slice a2 n2 c2, .int .i64 lb, .slice a3 n3 c3] 34)).alloc (Obj.cells #[.int .i64 0, .string ByteArray.empty, .int .i64 0, .int .i64 0, .slice none 0 0, .int .i64 0, .slice none 0 0, .int .i64 0, .slice none 0 0] 34))).heap.size ((w.alloc (Obj.cells #[.int .i64 k, .string nm, .int .i64 num, .int .i64 k1, .slice a1 n1 c1, .int .i64 k2, .slice a2 n2 c2, .int .i64 lb, .slice a3 n3 c3] 34)).alloc (Obj.cells #[.int .i64 0, .string ByteArray.empty, .int .i64 0, .int .i64 0, .slice none 0 0, .int .i64 0, .slice none 0 0, .int .i64 0, .slice none 0 0] 34))); exact a, by obtain ⟨a, b⟩ := two_out (Below.refl (((w.alloc (Obj.cells #[.int .i64 k, .string nm, .int .i64 num, .int .i64 k1, .slice a1 n1 c1, .int .i64 k2, .slice a2 n2 c2, .int .i64 lb, .slice a3 n3 c3] 34)).alloc (Obj.cells #[.int .i64 0, .string ByteArray.empty, .int .i64 0, .int .i64 0, .slice none 0 0, .int .i64 0, .slice none 0 0, .int .i64 0, .slice none 0 0] 34))).heap.size ((w.alloc (Obj.cells #[.int .i64 k, .string nm, .int .i64 num, .int .i64 k1, .slice a1 n1 c1, .int .i64 k2, .slice a2 n2 c2, .int .i64 lb, .slice a3 n3 c3] 34)).alloc (Obj.cells #[.int .i64 0, .string ByteArray.empty, .int .i64 0, .int .i64 0, .slice none 0 0, .int .i64 0, .slice none 0 0, .int .i64 0, .slice none 0 0] 34))); exact b, hat0, fun _ h => h, hok, rfl, Nat.le_refl _, ((Below.refl _ _).alloc (Nat.le_refl _) _).alloc (by simp) _⟩)
  clear hat hat0 hok
  go_enter Tryd.func61, Tryd.ntmps61
  go_wp2_with fail
  go_loopg [] (t.sz + 1) (fun n wr => ∃ u vs fu, BnR w t fp u vs fu wr ∧ u.sz ≤ n ∧ n ≤ t.sz + 1)
  case atStart => exact ⟨_, _, _, HR0.out, by omega, Nat.le_refl _⟩
  case round =>
    obtain ⟨u, vs, fu, hR, hw1, hw2⟩ := hrel
    obtain ⟨hB, hZ, hu, hfu, hok, hbt, hszu, hbw⟩ := hR
    obtain ⟨kk, mm, uu, ty, fr, ll, ts, rfl⟩ := u.shape
    obtain ⟨y1, s1, b1, h1, y2, s2, b2, h2, b3, d3, f1, f2, f3, hv, hnm, ht1, ht2, rfl, hs⟩ := hu.parts
    obtain rfl : vs = #[.int .i64 kk, .string mm, .int .i64 uu, .int .i64 y1, .slice b1 s1 h1, .int .i64 y2, .slice b2 s2 h2, .int .i64 ll, .slice b3 ts.length d3] := by injection hv
    simp only [bOk, ndOk] at hok
    obtain ⟨⟨hkid, hty, hfr, hno⟩, hokL⟩ := hok
    clear hv hu
    by_cases h13 : kk = 13 ∨ kk = 14
    · have hlen : ts.length = 1 := by
        rcases h13 with rfl | rfl
        · have : kidsM 13 = 1 := by decide
          omega
        · have : kidsM 14 = 1 := by decide
          omega
      have hp : 0 < ts.length := by omega
      have hp' : (0 : Int) < (ts.length : Int) := by omega
      obtain ⟨a, cap, hss, hc, hm, hget⟩ := hs.open
      cases hss
      obtain ⟨b, o, r0, r1, r2, r3, r4, r5, r6, r7, r8, r9, r10, r11, r12, r13, r14, fk, rfl, hblt, c0, c1', c2', c3', c4, c5, c6, c7, c8, hatk, hfk⟩ := hget 0 hp
      have HN := hid (show BnR w t fp ts[0] #[.int .i64 r0, .string r1, .int .i64 r2, .int .i64 r3, .slice r5 r4 r6, .int .i64 r7, .slice r9 r8 r10, .int .i64 r11, .slice r13 r12 r14] fk (put wr w.heap.size 0 [.int .i64 r0, .string r1, .int .i64 r2, .int .i64 r3, .slice r5 r4 r6, .int .i64 r7, .slice r9 r8 r10, .int .i64 r11, .slice r13 r12 r14]) from
        ⟨(heap_put hB).trans (by simp only [putA, List.setIfInBounds_toArray, List.set]), (heap_put_ne (by omega)).trans hZ, hatk, fun x hx => hfu x (by simp [hfk x hx]), bOkL_get hokL 0 hp, by rw [← hbt]; exact (bareT_cast h13 hp).symm, by have := sz_mem (List.getElem_mem hp); simp only [Tm.sz] at hszu; omega, below_put hbw (Nat.le_refl _)⟩)
      have hsz1 : ts[0].sz < gk := by have := sz_mem (List.getElem_mem hp); simp only [Tm.sz] at hw1; omega
      have HSZ := hid hsz1
      have d0 := (hbw.cell (p := ⟨b, o + 0 * 9, none⟩) hblt).trans c0
      have d1 := (hbw.cell (p := ⟨b, o + 0 * 9 + 1, none⟩) hblt).trans c1'
      have d2 := (hbw.cell (p := ⟨b, o + 0 * 9 + 2, none⟩) hblt).trans c2'
      have d3' := (hbw.cell (p := ⟨b, o + 0 * 9 + 3, none⟩) hblt).trans c3'
      have d4 := (hbw.cell (p := ⟨b, o + 0 * 9 + 4, none⟩) hblt).trans c4
      have d5 := (hbw.cell (p := ⟨b, o + 0 * 9 + 5, none⟩) hblt).trans c5
      have d6 := (hbw.cell (p := ⟨b, o + 0 * 9 + 6, none⟩) hblt).trans c6
      have d7 := (hbw.cell (p := ⟨b, o + 0 * 9 + 7, none⟩) hblt).trans c7
      have d8 := (hbw.cell (p := ⟨b, o + 0 * 9 + 8, none⟩) hblt).trans c8
      simp only [Nat.zero_mul, Nat.add_zero] at d0 d1 d2 d3' d4 d5 d6 d7 d8
      simp only [put, Nat.zero_add, Nat.reduceAdd] at HN
      obtain ⟨x0, x1, x2, x3, x4, x5, x6, x7, x8⟩ := cells9 hB
      have xz := fun o => frozen_of_block (o := o) hB
      have hwr : w.heap.size < wr.heap.size := lt_of_block hB
      have hblw : b < w.heap.size := hblt
      clear c0 c1' c2' c3' c4 c5 c6 c7 c8 hatk hfk hget hs ht1 ht2 hB hZ hbw hfu hbt hszu hno hty hfr hokL hkid hsz1
      rcases h13 with rfl | rfl
      all_goals
        go_wp2_with fail
        go_roundg (ts[0].sz)
        case measure => exact HSZ.out
        case rel => exact ⟨_, _, _, HN.out, Nat.le_refl _, by have := HSZ.out; omega⟩
    · have h13' : (kk == 13) = false := by simp; omega
      have h14' : (kk == 14) = false := by simp; omega
      obtain ⟨hty0, rfl, rfl⟩ := hno (by omega) (by omega)
      obtain ⟨x0, x1, x2, x3, x4, x5, x6, x7, x8⟩ := cells9 hB
      have xz := fun o => frozen_of_block (o := o) hB
      have HA := hid (And.intro ht1 ht2)
      have HO := hid (And.intro hty hfr)
      have HBW := hid hbw
      have HBB := hid (And.intro hB hZ)
      have HX := hid (show bareT t = .mk kk mm uu (bty kk) (.mk 0 []) 0 (bareL ts) ∧ bOkL ts ∧ szML ts + ts.length ≤ t.sz ∧ mm.size ≤ 9223372036854775807 ∧ SmAt w ts (.slice b3 ts.length d3) f3 ∧ (∀ b ∈ f3, b ∈ fp) from
        ⟨by rw [← hbt]; simp only [bareT]; rw [if_neg h13]; rfl, hokL, by simp only [Tm.sz] at hszu; omega, hnm, hs, fun x hx => hfu x (by simp [hx])⟩)
      clear ht1 ht2 hty hfr hbw hB hZ hs hfu hbt hszu hokL hkid hw1 hw2 hnm hno
      by_cases h5 : kk = 5
      · have e5 : (kk == 5) = true := by simpa using h5
        have HK := hid h5
        clear h5 hty0 h13
        go_wp2_with fail
        refine (copyNode_any kk mm uu ty (.mk 0 []) 0 b3 ts.length d3 y1 y2 s1 s2 h1 h2 b1 b2 f1 f2 _ (HA.out.1.below HBW.out) (HA.out.2.below HBW.out) HO.out.1 HO.out.2).mono ?_
        rintro e w1 ⟨j1, m1, p1, g1c, j2, m2, p2, g2c, g1, g2, rfl, hv1, hv2, hg, hb1⟩
        have hB1 := blk HBB.out.1 hb1
        have hZ1 := blk HBB.out.2 hb1
        clear x0 x1 x2 x3 x4 x5 x6 x7 x8 xz
        obtain ⟨x0, x1, x2, x3, x4, x5, x6, x7, x8⟩ := cells9 hB1
        obtain ⟨z0, z1, z2, z3, z4, z5, z6, z7, z8⟩ := cells9 hZ1
        have xz := fun o => frozen_of_block (o := o) hB1
        have zz := fun o => frozen_of_block (o := o) hZ1
        have hM : w.heap.size + 1 < w1.heap.size := lt_of_block hZ1
        have hwr : w.heap.size + 1 < wr.heap.size := lt_of_block HBB.out.2
        have hg' : Fresh (w.heap.size + 1 + 1) w1 (g1 ++ g2) := hg.mono (by omega)
        have b0 := below_trans HBW.out hb1
        have ab : Above (w.heap.size + 1 + 1) w1 (put (((put w1 w.heap.size 0 [.int .i64 kk, .string mm, .int .i64 uu, .int .i64 j1, .slice p1 m1 g1c, .int .i64 j2, .slice p2 m2 g2c, .int .i64 0, .slice b3 ts.length d3]).setCell ⟨w.heap.size, 3, none⟩ (.int .i64 1)).setCell ⟨w.heap.size, 4, none⟩ (.slice none 0 0)) (w.heap.size + 1) 0 [.int .i64 kk, .string mm, .int .i64 uu, .int .i64 1, .slice none 0 0, .int .i64 j2, .slice p2 m2 g2c, .int .i64 0, .slice b3 ts.length d3]) := Above.put ((((Above.refl (w.heap.size + 1 + 1) w1).put (vs := [.int .i64 kk, .string mm, .int .i64 uu, .int .i64 j1, .slice p1 m1 g1c, .int .i64 j2, .slice p2 m2 g2c, .int .i64 0, .slice b3 ts.length d3]) (o := 0) (b := w.heap.size) (by omega)).setCell (p := ⟨w.heap.size, 3, none⟩) (by simp; omega) (.int .i64 1)).setCell (p := ⟨w.heap.size, 4, none⟩) (by simp; omega) (.slice none 0 0)) (by omega)
        have bb : Below w.heap.size w (put (((put w1 w.heap.size 0 [.int .i64 kk, .string mm, .int .i64 uu, .int .i64 j1, .slice p1 m1 g1c, .int .i64 j2, .slice p2 m2 g2c, .int .i64 0, .slice b3 ts.length d3]).setCell ⟨w.heap.size, 3, none⟩ (.int .i64 1)).setCell ⟨w.heap.size, 4, none⟩ (.slice none 0 0)) (w.heap.size + 1) 0 [.int .i64 kk, .string mm, .int .i64 uu, .int .i64 1, .slice none 0 0, .int .i64 j2, .slice p2 m2 g2c, .int .i64 0, .slice b3 ts.length d3]) := below_put (((below_put (vs := [.int .i64 kk, .string mm, .int .i64 uu, .int .i64 j1, .slice p1 m1 g1c, .int .i64 j2, .slice p2 m2 g2c, .int .i64 0, .slice b3 ts.length d3]) (o := 0) b0 (Nat.le_refl _)).setCell (p := ⟨w.heap.size, 3, none⟩) (Nat.le_refl _) (.int .i64 1)).setCell (p := ⟨w.heap.size, 4, none⟩) (Nat.le_refl _) (.slice none 0 0)) (by omega)
        have gf : Fresh (w.heap.size + 1 + 1) w1 ([] ++ g2) := ⟨(List.nodup_append.1 hg'.1).2.1, fun b hb => hg'.2 b (by simp at hb; simp [hb])⟩
        have FIN := hid (show BnOut w t fp (.returned (.tuple #[.agg #[.int .i64 kk, .string mm, .int .i64 uu, .int .i64 1, .slice none 0 0, .int .i64 j2, .slice p2 m2 g2c, .int .i64 0, .slice b3 ts.length d3], .bool true])) (put (((put w1 w.heap.size 0 [.int .i64 kk, .string mm, .int .i64 uu, .int .i64 j1, .slice p1 m1 g1c, .int .i64 j2, .slice p2 m2 g2c, .int .i64 0, .slice b3 ts.length d3]).setCell ⟨w.heap.size, 3, none⟩ (.int .i64 1)).setCell ⟨w.heap.size, 4, none⟩ (.slice none 0 0)) (w.heap.size + 1) 0 [.int .i64 kk, .string mm, .int .i64 uu, .int .i64 1, .slice none 0 0, .int .i64 j2, .slice p2 m2 g2c, .int .i64 0, .slice b3 ts.length d3]) from
          ⟨kk, mm, uu, ts, b3, d3, f3, 1, 0, none, 0, j2, m2, p2, g2c, [], g2, HX.out.1, HX.out.2.1, HX.out.2.2.1, HX.out.2.2.2.1, HX.out.2.2.2.2.1, HX.out.2.2.2.2.2, rfl, by unfold bty; rw [if_pos HK.out]; exact Ty.at_mk.2 ⟨_, rfl, .inl ⟨rfl, rfl, _, _, rfl⟩⟩, hv2.above ab (fun b hb => hg'.ge b (by simp [hb])), (gf.above ab (Nat.le_refl _)).mono (by omega), bb⟩)
        clear hv1 hv2 hg hg' hb1 b0 ab bb gf
        have HBZ := hid (And.intro hB1 hZ1)
        clear hB1 hZ1
        go_upto_region 4 with (fail)
        generalize hW2 : (((((((((w1.setCell ⟨w.heap.size, 0, none⟩ (.int .i64 kk)).setCell ⟨w.heap.size, 1, none⟩ (.string mm)).setCell ⟨w.heap.size, 2, none⟩ (.int .i64 uu)).setCell ⟨w.heap.size, 3, none⟩ (.int .i64 j1)).setCell ⟨w.heap.size, 4, none⟩ (.slice p1 m1 g1c)).setCell ⟨w.heap.size, 5, none⟩ (.int .i64 j2)).setCell ⟨w.heap.size, 6, none⟩ (.slice p2 m2 g2c)).setCell ⟨w.heap.size, 7, none⟩ (.int .i64 0)).setCell ⟨w.heap.size, 8, none⟩ (.slice b3 ts.length d3)) = W2
        have e2 : W2 = put w1 w.heap.size 0 [.int .i64 kk, .string mm, .int .i64 uu, .int .i64 j1, .slice p1 m1 g1c, .int .i64 j2, .slice p2 m2 g2c, .int .i64 0, .slice b3 ts.length d3] := by rw [← hW2]; simp only [put, Nat.zero_add, Nat.reduceAdd]
        have hB2 : W2.heap[w.heap.size]? = some (.cells (Array.mk [.int .i64 kk, .string mm, .int .i64 uu, .int .i64 j1, .slice p1 m1 g1c, .int .i64 j2, .slice p2 m2 g2c, .int .i64 0, .slice b3 ts.length d3]) 34 (0, 0)) := by
          rw [e2, heap_put HBZ.out.1]
          simp only [putA, List.setIfInBounds_toArray, List.set]
        have hZ2 : W2.heap[w.heap.size + 1]? = some (Obj.cells #[.int .i64 0, .string ByteArray.empty, .int .i64 0, .int .i64 0, .slice none 0 0, .int .i64 0, .slice none 0 0, .int .i64 0, .slice none 0 0] 34) := by rw [e2, heap_put_ne (by omega)]; exact HBZ.out.2
        rw [← e2] at FIN
        clear x0 x1 x2 x3 x4 x5 x6 x7 x8 z0 z1 z2 z3 z4 z5 z6 z7 z8 xz zz hM hwr e2 hW2 HBZ
        obtain ⟨x0, x1, x2, x3, x4, x5, x6, x7, x8⟩ := cells9 hB2
        obtain ⟨z0, z1, z2, z3, z4, z5, z6, z7, z8⟩ := cells9 hZ2
        have xz := fun o => frozen_of_block (o := o) hB2
        have zz := fun o => frozen_of_block (o := o) hZ2
        have hM2 : w.heap.size + 1 < W2.heap.size := lt_of_block hZ2
        simp only [put, Nat.zero_add, Nat.reduceAdd] at FIN
        clear hB2 hZ2
        go_wp2_with fail
        exact bodyPost_ret (v := .tuple #[.agg #[.int .i64 kk, .string mm, .int .i64 uu, .int .i64 1, .slice none 0 0, .int .i64 j2, .slice p2 m2 g2c, .int .i64 0, .slice b3 ts.length d3], .bool true]) (by simp [results, Tryd.results61, go_sem, z0, z1, z2, z3, z4, z5, z6, z7, z8]) rfl FIN.out
      · have e5 : (kk == 5) = false := by simpa using h5
        have HK := hid h5
        have HY := hid (hty0 h5)
        clear h5 hty0 h13
        go_wp2_with fail
        refine (copyNode_any kk mm uu ty (.mk 0 []) 0 b3 ts.length d3 y1 y2 s1 s2 h1 h2 b1 b2 f1 f2 _ (HA.out.1.below HBW.out) (HA.out.2.below HBW.out) HO.out.1 HO.out.2).mono ?_
        rintro e w1 ⟨j1, m1, p1, g1c, j2, m2, p2, g2c, g1, g2, rfl, hv1, hv2, hg, hb1⟩
        have hB1 := blk HBB.out.1 hb1
        have hZ1 := blk HBB.out.2 hb1
        clear x0 x1 x2 x3 x4 x5 x6 x7 x8 xz
        obtain ⟨x0, x1, x2, x3, x4, x5, x6, x7, x8⟩ := cells9 hB1
        obtain ⟨z0, z1, z2, z3, z4, z5, z6, z7, z8⟩ := cells9 hZ1
        have xz := fun o => frozen_of_block (o := o) hB1
        have zz := fun o => frozen_of_block (o := o) hZ1
        have hM : w.heap.size + 1 < w1.heap.size := lt_of_block hZ1
        have hwr : w.heap.size + 1 < wr.heap.size := lt_of_block HBB.out.2
        have hg' : Fresh (w.heap.size + 1 + 1) w1 (g1 ++ g2) := hg.mono (by omega)
        have b0 := below_trans HBW.out hb1
        have ab : Above (w.heap.size + 1 + 1) w1 (put (put w1 w.heap.size 0 [.int .i64 kk, .string mm, .int .i64 uu, .int .i64 j1, .slice p1 m1 g1c, .int .i64 j2, .slice p2 m2 g2c, .int .i64 0, .slice b3 ts.length d3]) (w.heap.size + 1) 0 [.int .i64 kk, .string mm, .int .i64 uu, .int .i64 j1, .slice p1 m1 g1c, .int .i64 j2, .slice p2 m2 g2c, .int .i64 0, .slice b3 ts.length d3]) := Above.put ((Above.refl (w.heap.size + 1 + 1) w1).put (vs := [.int .i64 kk, .string mm, .int .i64 uu, .int .i64 j1, .slice p1 m1 g1c, .int .i64 j2, .slice p2 m2 g2c, .int .i64 0, .slice b3 ts.length d3]) (o := 0) (b := w.heap.size) (by omega)) (by omega)
        have bb : Below w.heap.size w (put (put w1 w.heap.size 0 [.int .i64 kk, .string mm, .int .i64 uu, .int .i64 j1, .slice p1 m1 g1c, .int .i64 j2, .slice p2 m2 g2c, .int .i64 0, .slice b3 ts.length d3]) (w.heap.size + 1) 0 [.int .i64 kk, .string mm, .int .i64 uu, .int .i64 j1, .slice p1 m1 g1c, .int .i64 j2, .slice p2 m2 g2c, .int .i64 0, .slice b3 ts.length d3]) := below_put (below_put (vs := [.int .i64 kk, .string mm, .int .i64 uu, .int .i64 j1, .slice p1 m1 g1c, .int .i64 j2, .slice p2 m2 g2c, .int .i64 0, .slice b3 ts.length d3]) (o := 0) b0 (Nat.le_refl _)) (by omega)
        have FIN := hid (show BnOut w t fp (.returned (.tuple #[.agg #[.int .i64 kk, .string mm, .int .i64 uu, .int .i64 j1, .slice p1 m1 g1c, .int .i64 j2, .slice p2 m2 g2c, .int .i64 0, .slice b3 ts.length d3], .bool true])) (put (put w1 w.heap.size 0 [.int .i64 kk, .string mm, .int .i64 uu, .int .i64 j1, .slice p1 m1 g1c, .int .i64 j2, .slice p2 m2 g2c, .int .i64 0, .slice b3 ts.length d3]) (w.heap.size + 1) 0 [.int .i64 kk, .string mm, .int .i64 uu, .int .i64 j1, .slice p1 m1 g1c, .int .i64 j2, .slice p2 m2 g2c, .int .i64 0, .slice b3 ts.length d3]) from
          ⟨kk, mm, uu, ts, b3, d3, f3, j1, m1, p1, g1c, j2, m2, p2, g2c, g1, g2, HX.out.1, HX.out.2.1, HX.out.2.2.1, HX.out.2.2.2.1, HX.out.2.2.2.2.1, HX.out.2.2.2.2.2, rfl, by unfold bty; rw [if_neg HK.out, ← HY.out]; exact hv1.above ab (fun b hb => hg'.ge b (by simp [hb])), hv2.above ab (fun b hb => hg'.ge b (by simp [hb])), (hg'.above ab (Nat.le_refl _)).mono (by omega), bb⟩)
        clear hv1 hv2 hg hg' hb1 b0 ab bb
        have HBZ := hid (And.intro hB1 hZ1)
        clear hB1 hZ1
        go_upto_region 4 with (fail)
        generalize hW2 : (((((((((w1.setCell ⟨w.heap.size, 0, none⟩ (.int .i64 kk)).setCell ⟨w.heap.size, 1, none⟩ (.string mm)).setCell ⟨w.heap.size, 2, none⟩ (.int .i64 uu)).setCell ⟨w.heap.size, 3, none⟩ (.int .i64 j1)).setCell ⟨w.heap.size, 4, none⟩ (.slice p1 m1 g1c)).setCell ⟨w.heap.size, 5, none⟩ (.int .i64 j2)).setCell ⟨w.heap.size, 6, none⟩ (.slice p2 m2 g2c)).setCell ⟨w.heap.size, 7, none⟩ (.int .i64 0)).setCell ⟨w.heap.size, 8, none⟩ (.slice b3 ts.length d3)) = W2
        have e2 : W2 = put w1 w.heap.size 0 [.int .i64 kk, .string mm, .int .i64 uu, .int .i64 j1, .slice p1 m1 g1c, .int .i64 j2, .slice p2 m2 g2c, .int .i64 0, .slice b3 ts.length d3] := by rw [← hW2]; simp only [put, Nat.zero_add, Nat.reduceAdd]
        have hB2 : W2.heap[w.heap.size]? = some (.cells (Array.mk [.int .i64 kk, .string mm, .int .i64 uu, .int .i64 j1, .slice p1 m1 g1c, .int .i64 j2, .slice p2 m2 g2c, .int .i64 0, .slice b3 ts.length d3]) 34 (0, 0)) := by
          rw [e2, heap_put HBZ.out.1]
          simp only [putA, List.setIfInBounds_toArray, List.set]
        have hZ2 : W2.heap[w.heap.size + 1]? = some (Obj.cells #[.int .i64 0, .string ByteArray.empty, .int .i64 0, .int .i64 0, .slice none 0 0, .int .i64 0, .slice none 0 0, .int .i64 0, .slice none 0 0] 34) := by rw [e2, heap_put_ne (by omega)]; exact HBZ.out.2
        rw [← e2] at FIN
        clear x0 x1 x2 x3 x4 x5 x6 x7 x8 z0 z1 z2 z3 z4 z5 z6 z7 z8 xz zz hM hwr e2 hW2 HBZ
        obtain ⟨x0, x1, x2, x3, x4, x5, x6, x7, x8⟩ := cells9 hB2
        obtain ⟨z0, z1, z2, z3, z4, z5, z6, z7, z8⟩ := cells9 hZ2
        have xz := fun o => frozen_of_block (o := o) hB2
        have zz := fun o => frozen_of_block (o := o) hZ2
        have hM2 : w.heap.size + 1 < W2.heap.size := lt_of_block hZ2
        simp only [put, Nat.zero_add, Nat.reduceAdd] at FIN
        clear hB2 hZ2
        go_wp2_with fail
        exact bodyPost_ret (v := .tuple #[.agg #[.int .i64 kk, .string mm, .int .i64 uu, .int .i64 j1, .slice p1 m1 g1c, .int .i64 j2, .slice p2 m2 g2c, .int .i64 0, .slice b3 ts.length d3], .bool true]) (by simp [results, Tryd.results61, go_sem, z0, z1, z2, z3, z4, z5, z6, z7, z8]) rfl FIN.out

def RwB (t : Tm) : Prop := ∀ v fp w, t.At w v fp → bOk t → Calls Tryd.prog 60 #[v, .func (.func 61) #[] #[]] w (MadeM w (bareT t))

/-- The loop over the operands: what stands behind j rounds. -/
def BrI (w : World) (M : Nat) (us : List Tm) (n : Nat) (ty fr : Ty) (nv : List Value) (v1 v2 : Value) (g1 g2 : List Nat) (j : Nat) (f : List Nat) (wr : World) : Prop :=
  wr.heap[w.heap.size]? = some (.cells nv.toArray 34 (0, 0)) ∧ wr.heap[w.heap.size + 1]? = some (Obj.cells #[.int .i64 0, .string ByteArray.empty, .int .i64 0, .int .i64 0, .slice none 0 0, .int .i64 0, .slice none 0 0, .int .i64 0, .slice none 0 0] 34) ∧ ty.At wr v1 g1 ∧ fr.At wr v2 g2 ∧ Fresh (w.heap.size + 1 + 1) wr (g1 ++ g2) ∧ (∀ b ∈ g1 ++ g2, b < M) ∧ w.heap.size + 1 < M ∧
    BuiltM M 34 n (us.take j) f wr ∧ Below w.heap.size w wr

theorem BrI.start {w w1 : World} {us : List Tm} {n : Nat} {ty fr : Ty} {nv : List Value} {C : Array Value} {v1 v2 : Value} {g1 g2 : List Nat} {Z : Array Value}
    (hB : w1.heap[w.heap.size]? = some (.cells C 34 (0, 0))) (hov : putA C 0 nv = nv.toArray) (hZ : w1.heap[w.heap.size + 1]? = some (Obj.cells #[.int .i64 0, .string ByteArray.empty, .int .i64 0, .int .i64 0, .slice none 0 0, .int .i64 0, .slice none 0 0, .int .i64 0, .slice none 0 0] 34))
    (h1 : ty.At w1 v1 g1) (h2 : fr.At w1 v2 g2) (hg : Fresh (w.heap.size + 1 + 1) w1 (g1 ++ g2)) (hbx : Below w.heap.size w w1) (hZs : Z.size = n * 9) :
    BrI w w1.heap.size us n ty fr nv v1 v2 g1 g2 0 [] ((put w1 w.heap.size 0 nv).alloc (.cells Z 34)) := by
  have hM : w.heap.size + 1 < w1.heap.size := lt_of_block hZ
  have sz : (put w1 w.heap.size 0 nv).heap.size = w1.heap.size := size_put
  have ab := (Above.refl (w.heap.size + 1 + 1) w1).put (vs := nv) (o := 0) (b := w.heap.size) (by omega)
  have hal : Below (put w1 w.heap.size 0 nv).heap.size (put w1 w.heap.size 0 nv) ((put w1 w.heap.size 0 nv).alloc (.cells Z 34)) := (Below.refl _ _).alloc (Nat.le_refl _) _
  refine ⟨blk ((heap_put hB).trans (by rw [hov])) hal, blk ((heap_put_ne (by omega)).trans hZ) hal, (h1.above ab (fun b hb => hg.ge b (by simp [hb]))).below hal, (h2.above ab (fun b hb => hg.ge b (by simp [hb]))).below hal, (hg.above ab (Nat.le_refl _)).below hal, fun b hb => (hg.2 b hb).2.1, hM, ?_, below_trans (below_put hbx (Nat.le_refl _)) hal⟩
  rw [List.take_zero]
  exact BuiltM.zero (C := Z) (by rw [← sz]; exact alloc_new _ _) hZs

theorem BrI.step {w wr w2 : World} {M n : Nat} {ts : List Tm} {ty fr : Ty} {nv vs : List Value} {v1 v2 : Value} {g1 g2 f f' : List Nat} {j : Nat}
    (h : BrI w M (bareL ts) n ty fr nv v1 v2 g1 g2 j f wr) (hj : j < ts.length) (hn : n = ts.length)
    (hat : (bareT ts[j]).At w2 (.agg vs.toArray) f') (hf : Fresh wr.heap.size w2 f') (hb : Below wr.heap.size wr w2) :
    BrI w M (bareL ts) n ty fr nv v1 v2 g1 g2 (j + 1) (f ++ f') (put w2 M (j * 9) vs) := by
  obtain ⟨hB, hZ, h1, h2, hg, hlt, hM, hBu, hx⟩ := h
  have q1 := (h1.below hb).putne (M := M) (o := j * 9) (vs := vs) (fun b hb => by have := hlt b (by simp [hb]); omega)
  have q2 := (h2.below hb).putne (M := M) (o := j * 9) (vs := vs) (fun b hb => by have := hlt b (by simp [hb]); omega)
  have q3 := (hg.below hb).putne (M := M) (o := j * 9) (vs := vs) (fun b hb => by have := hlt b hb; omega)
  refine ⟨(heap_put_ne (by omega)).trans (blk hB hb), (heap_put_ne (by omega)).trans (blk hZ hb), q1, q2, q3, hlt, hM, ?_, below_put (below_trans hx hb) (by omega)⟩
  rw [bareL_take ts j hj]
  exact hBu.stepX (U := 0) (by rw [List.length_take, bareL_len]; omega) (by omega) (Bx.of_below hb) (by omega) hat hf

theorem BrI.done {w wr : World} {M n : Nat} {us : List Tm} {ty fr : Ty} {nv vs : List Value} {v8 : Value} {g1 g2 f : List Nat} {k : Int} {nm : ByteArray} {num lb : Int} {k1 k2 : Int} {n1' n2 c1 c2 : Nat} {a1 a2 : Option Addr}
    (h : BrI w M us n ty fr nv (.agg #[.int .i64 k1, .slice a1 n1' c1]) (.agg #[.int .i64 k2, .slice a2 n2 c2]) g1 g2 n f wr) (hn : us.length = n) (hnm : nm.size ≤ 9223372036854775807) (hmax : n ≤ maxLen)
    (hvs : vs = [.int .i64 k, .string nm, .int .i64 num, .int .i64 k1, .slice a1 n1' c1, .int .i64 k2, .slice a2 n2 c2, .int .i64 lb, .slice (some ⟨M, 0, none⟩) n n]) :
    let W := put (wr.setCell ⟨w.heap.size, 8, none⟩ v8) (w.heap.size + 1) 0 vs
    ∃ f, (Tm.mk k nm num ty fr lb us).At W (.agg vs.toArray) f ∧ Fresh w.heap.size W f ∧ Below w.heap.size w W := by
  obtain ⟨hB, hZ, h1, h2, hg, hlt, hM, hBu, hx⟩ := h
  obtain ⟨fp, hsm, hfp⟩ := hBu.done (by rw [List.length_take]; omega) hmax
  rw [List.take_of_length_le (by omega)] at hsm
  obtain ⟨ff, z1, z2, -, -⟩ := rw_fin (S0 := 0) (U := 0) (St := fun _ _ => True) (n := 0) (us := []) (v8 := v8) (fun _ _ _ _ _ => trivial) hnm (Nat.zero_le _) h1 h2 hg (Bx.of_below hx) trivial hsm (hfp.mono (by omega)) (.inr fun b hb c hc => by have := hlt b hb; have := hfp.ge c hc; omega) hvs
  exact ⟨ff, z1, z2, below_put (hx.setCell (p := ⟨w.heap.size, 8, none⟩) (Nat.le_refl _) v8) (by omega)⟩

set_option maxRecDepth 100000 in
set_option maxHeartbeats 4000000 in
theorem rewriteBare : ∀ (n : Nat) (t : Tm), t.sz ≤ n → t.sz ≤ 1048576 → RwB t := by
  intro n
  induction n using Nat.strongRecOn with
  | _ n ih =>
  intro t hn hsz v fp w hat hok
  have HIH := hid ih
  clear ih
  have hat0 := hat
  obtain ⟨e0, e1, e2, e3, e4, e5, e6, e7, e8, e9, e10, e11, e12, e13, e14, rfl⟩ := hat.agg
  have hb0 : Below w.heap.size w ((w.alloc (Obj.cells #[.int .i64 e0, .string e1, .int .i64 e2, .int .i64 e3, .slice e5 e4 e6, .int .i64 e7, .slice e9 e8 e10, .int .i64 e11, .slice e13 e12 e14] 34)).alloc (Obj.cells #[.int .i64 0, .string ByteArray.empty, .int .i64 0, .int .i64 0, .slice none 0 0, .int .i64 0, .slice none 0 0, .int .i64 0, .slice none 0 0] 34)) := ((Below.refl _ _).alloc (Nat.le_refl _) _).alloc (by simp) _
  have HCALL := hid (bareNode_any t _ fp ((w.alloc (Obj.cells #[.int .i64 e0, .string e1, .int .i64 e2, .int .i64 e3, .slice e5 e4 e6, .int .i64 e7, .slice e9 e8 e10, .int .i64 e11, .slice e13 e12 e14] 34)).alloc (Obj.cells #[.int .i64 0, .string ByteArray.empty, .int .i64 0, .int .i64 0, .slice none 0 0, .int .i64 0, .slice none 0 0, .int .i64 0, .slice none 0 0] 34)) hok (hat0.below hb0))
  have HB0 := hid hb0
  have hs0 : (((w.alloc (Obj.cells #[.int .i64 e0, .string e1, .int .i64 e2, .int .i64 e3, .slice e5 e4 e6, .int .i64 e7, .slice e9 e8 e10, .int .i64 e11, .slice e13 e12 e14] 34)).alloc (Obj.cells #[.int .i64 0, .string ByteArray.empty, .int .i64 0, .int .i64 0, .slice none 0 0, .int .i64 0, .slice none 0 0, .int .i64 0, .slice none 0 0] 34))).heap.size = w.heap.size + 1 + 1 := by simp
  have HZ0 := hid hs0
  have HSZ := hid (And.intro hn hsz)
  have HLT := hid (show ∀ b ∈ fp, b < w.heap.size from hat0.lt)
  clear hat hat0 hb0 hs0 hok hn hsz
  go_enter Tryd.func60, Tryd.ntmps60
  go_wp2_with fail
  refine HCALL.out.mono ?_
  rintro e w1 ⟨k, nm, num, ts, a3, c3, f3, j1, m1, p1, d1, j2, m2, p2, d2, g1, g2, hbt, hokL, hszL, hnm, hs, hf3, rfl, hv1, hv2, hg, hb1⟩
  have hs' : SmAt w ts (.slice a3 ts.length c3) f3 := hs.congr fun b hb o => World.cell?_of_block (w := ((w.alloc (Obj.cells #[.int .i64 e0, .string e1, .int .i64 e2, .int .i64 e3, .slice e5 e4 e6, .int .i64 e7, .slice e9 e8 e10, .int .i64 e11, .slice e13 e12 e14] 34)).alloc (Obj.cells #[.int .i64 0, .string ByteArray.empty, .int .i64 0, .int .i64 0, .slice none 0 0, .int .i64 0, .slice none 0 0, .int .i64 0, .slice none 0 0] 34))) (a := ⟨b, o, none⟩) (HB0.out.block b (HLT.out b (hf3 b hb))).symm
  obtain ⟨a, cap, hss, hc, hm, hget⟩ := hs'.open
  cases hss
  have HG := hid hget
  have b1 := below_trans HB0.out hb1
  obtain ⟨hB, hZ⟩ := two_out hb1
  obtain ⟨x0, x1, x2, x3, x4, x5, x6, x7, x8⟩ := cells9 hB
  have xz := fun o => frozen_of_block (o := o) hB
  have hM : w.heap.size + 1 < w1.heap.size := lt_of_block hZ
  rw [HZ0.out] at hg
  have HBT := hid hbt
  have HOK := hid hokL
  have HNM := hid hnm
  have HSL := hid (show szML ts + ts.length ≤ n ∧ szML ts + ts.length ≤ 1048576 by have := HSZ.out; omega)
  clear hs hs' hget hbt hokL hszL hnm hf3 HCALL
  by_cases h0 : ts.length = 0
  · have htn : ts = [] := List.length_eq_zero_iff.1 h0
    subst htn
    obtain ⟨y0, y1, y2, y3, y4, y5, y6, y7, y8⟩ := cells9 hZ
    have yz := fun o => frozen_of_block (o := o) hZ
    have FIN := hid (fun (v8 : Value) => And.intro (rw_fin (S0 := 0) (U := 0) (St := fun _ _ => True) (n := 0) (w := w) (k := k) (nm := nm) (num := num) (lb := 0) (vs := [.int .i64 k, .string nm, .int .i64 num, .int .i64 j1, .slice p1 m1 d1, .int .i64 j2, .slice p2 m2 d2, .int .i64 0, .slice none 0 0]) (us := [.int .i64 k, .string nm, .int .i64 num, .int .i64 j1, .slice p1 m1 d1, .int .i64 j2, .slice p2 m2 d2, .int .i64 0, .slice a3 0 c3]) (ts := []) (s := .slice none 0 0) (f3 := []) (v8 := v8) (fun _ _ _ _ _ => trivial) HNM.out (Nat.zero_le _) hv1 hv2 hg (Bx.of_below b1) trivial (.inl ⟨rfl, rfl, _, _, rfl⟩) (Fresh.nil _ _) (.inl rfl) rfl)
      (show Below w.heap.size w (put ((put w1 w.heap.size 0 [.int .i64 k, .string nm, .int .i64 num, .int .i64 j1, .slice p1 m1 d1, .int .i64 j2, .slice p2 m2 d2, .int .i64 0, .slice a3 0 c3]).setCell ⟨w.heap.size, 8, none⟩ v8) (w.heap.size + 1) 0 [.int .i64 k, .string nm, .int .i64 num, .int .i64 j1, .slice p1 m1 d1, .int .i64 j2, .slice p2 m2 d2, .int .i64 0, .slice none 0 0]) from below_put ((below_put b1 (Nat.le_refl _)).setCell (p := ⟨w.heap.size, 8, none⟩) (Nat.le_refl _) v8) (by omega)))
    have HBZ := hid (And.intro hB hZ)
    clear hB hZ hv1 hv2 hg b1 hb1 HB0 HZ0 HG HIH hc hm h0
    go_wp2_with fail
    go_loop [27] (fun i => i = .int .i64 0) (fun _ => 0)
    case atStart => rfl
    case round =>
      obtain rfl := hrel
      clear x0 x1 x2 x3 x4 x5 x6 x7 x8 y0 y1 y2 y3 y4 y5 y6 y7 y8 xz yz hM
      generalize hW2 : (((((((((w1.setCell ⟨w.heap.size, 0, none⟩ (.int .i64 k)).setCell ⟨w.heap.size, 1, none⟩ (.string nm)).setCell ⟨w.heap.size, 2, none⟩ (.int .i64 num)).setCell ⟨w.heap.size, 3, none⟩ (.int .i64 j1)).setCell ⟨w.heap.size, 4, none⟩ (.slice p1 m1 d1)).setCell ⟨w.heap.size, 5, none⟩ (.int .i64 j2)).setCell ⟨w.heap.size, 6, none⟩ (.slice p2 m2 d2)).setCell ⟨w.heap.size, 7, none⟩ (.int .i64 0)).setCell ⟨w.heap.size, 8, none⟩ (.slice a3 0 c3)) = W2
      have e2 : W2 = put w1 w.heap.size 0 [.int .i64 k, .string nm, .int .i64 num, .int .i64 j1, .slice p1 m1 d1, .int .i64 j2, .slice p2 m2 d2, .int .i64 0, .slice a3 0 c3] := by rw [← hW2]; simp only [put, Nat.zero_add, Nat.reduceAdd]
      have hB2 : W2.heap[w.heap.size]? = some (.cells (Array.mk [.int .i64 k, .string nm, .int .i64 num, .int .i64 j1, .slice p1 m1 d1, .int .i64 j2, .slice p2 m2 d2, .int .i64 0, .slice a3 0 c3]) 34 (0, 0)) := by
        rw [e2, heap_put HBZ.out.1]
        simp only [putA, List.setIfInBounds_toArray, List.set]
      have hZ2 : W2.heap[w.heap.size + 1]? = some (Obj.cells #[.int .i64 0, .string ByteArray.empty, .int .i64 0, .int .i64 0, .slice none 0 0, .int .i64 0, .slice none 0 0, .int .i64 0, .slice none 0 0] 34) := by rw [e2, heap_put_ne (by omega)]; exact HBZ.out.2
      obtain ⟨x0, x1, x2, x3, x4, x5, x6, x7, x8⟩ := cells9 hB2
      obtain ⟨y0, y1, y2, y3, y4, y5, y6, y7, y8⟩ := cells9 hZ2
      have xz := fun o => frozen_of_block (o := o) hB2
      have yz := fun o => frozen_of_block (o := o) hZ2
      have hM : w.heap.size + 1 < W2.heap.size := lt_of_block hZ2
      rw [← e2] at FIN
      clear hB2 hZ2 HBZ e2 hW2
      go_wp2_with fail
      obtain ⟨⟨ff, q1, q2, -, -⟩, q3⟩ := FIN.out (.slice none 0 0)
      have e0' : bareL [] = [] := by simp only [bareL]
      exact bodyPost_ret (v := .agg #[.int .i64 k, .string nm, .int .i64 num, .int .i64 j1, .slice p1 m1 d1, .int .i64 j2, .slice p2 m2 d2, .int .i64 0, .slice none 0 0]) (by simp [results, Tryd.results60, go_sem, y0, y1, y2, y3, y4, y5, y6, y7, y8]) rfl ⟨_, ff, rfl, by rw [HBT.out, e0']; exact q1, q2, q3⟩
  · have hpos : 0 < ts.length := by omega
    have hpos' : (0 : Int) < (ts.length : Int) := by omega
    clear h0
    obtain ⟨Z, hZs, hmk⟩ : ∃ Z : Array Value, Z.size = ts.length * 9 ∧ ∀ w : World, (Instr.makeSlice 32 (.int .i64 (ts.length : Int)) (.int .i64 (ts.length : Int))).run Tryd.prog w = .ok (.slice (some ⟨w.heap.size, 0, none⟩) ts.length ts.length) (w.alloc (.cells Z 34)) := by
      have hN := HSL.out
      obtain ⟨i0, hi, hz0, hz1, hz2⟩ := info_parts (P := Tryd.prog) (e := 34) Tryd.infoTm
      have r := fun w : World => run_make w _ _ i0 _ Tryd.underTms hi hz0 .i64 .i64 (ts.length : Int) (ts.length : Int) (by omega) (by omega) (by rw [hz2]; omega) (by omega)
      simp only [Int.toNat_natCast, hz1] at r
      exact ⟨_, size_madeCells _ _, r⟩
    have HST1 := hid (BrI.start (us := bareL ts) (n := ts.length) (nv := [.int .i64 k, .string nm, .int .i64 num, .int .i64 j1, .slice p1 m1 d1, .int .i64 j2, .slice p2 m2 d2, .int .i64 0, .slice a3 ts.length c3]) hB (by simp only [putA, List.setIfInBounds_toArray, List.set]) hZ hv1 hv2 hg b1 hZs)
    clear hB hZ hv1 hv2 hg b1 hb1 hZs
    go_wp2_with fail
    go_loopw [27] (fun i wr => ∃ (j : Nat) (f : List Nat), j ≤ ts.length ∧ i = .int .i64 j ∧ BrI w w1.heap.size (bareL ts) ts.length (bty k) (.mk 0 []) [.int .i64 k, .string nm, .int .i64 num, .int .i64 j1, .slice p1 m1 d1, .int .i64 j2, .slice p2 m2 d2, .int .i64 0, .slice a3 ts.length c3] (.agg #[.int .i64 j1, .slice p1 m1 d1]) (.agg #[.int .i64 j2, .slice p2 m2 d2]) g1 g2 j f wr) (fun i _ => ts.length - (intOf i).toNat)
    case atStart => exact ⟨0, [], Nat.zero_le _, rfl, HST1.out⟩
    case round =>
      obtain ⟨j, f, hj, rfl, hI⟩ := hrel
      clear x0 x1 x2 x3 x4 x5 x6 x7 x8 xz
      have hI0 := hI
      obtain ⟨hB, hZ, -, -, -, -, -, hBu, hx⟩ := hI0
      obtain ⟨x0, x1, x2, x3, x4, x5, x6, x7, x8⟩ := cells9 hB
      have xz := fun o => frozen_of_block (o := o) hB
      have HI := hid hI
      clear hI
      by_cases hlk : j < ts.length
      · obtain ⟨b, o, q0, q1, q2, q3, q4, q5, q6, q7, q8, q9, q10, q11, q12, q13, q14, fk, rfl, hblt, c0, c1', c2', c3', c4, c5, c6, c7, c8, hatk, hfk⟩ := HG.out j hlk
        have u0 := (hx.cell (p := ⟨b, o + j * 9, none⟩) hblt).trans c0
        have u1 := (hx.cell (p := ⟨b, o + j * 9 + 1, none⟩) hblt).trans c1'
        have u2 := (hx.cell (p := ⟨b, o + j * 9 + 2, none⟩) hblt).trans c2'
        have u3 := (hx.cell (p := ⟨b, o + j * 9 + 3, none⟩) hblt).trans c3'
        have u4 := (hx.cell (p := ⟨b, o + j * 9 + 4, none⟩) hblt).trans c4
        have u5 := (hx.cell (p := ⟨b, o + j * 9 + 5, none⟩) hblt).trans c5
        have u6 := (hx.cell (p := ⟨b, o + j * 9 + 6, none⟩) hblt).trans c6
        have u7 := (hx.cell (p := ⟨b, o + j * 9 + 7, none⟩) hblt).trans c7
        have u8 := (hx.cell (p := ⟨b, o + j * 9 + 8, none⟩) hblt).trans c8
        have HATK := hid (hatk.below hx)
        have hszk : ts[j].sz < n ∧ ts[j].sz ≤ 1048576 := by have := HSL.out; have := sz_mem (List.getElem_mem hlk); omega
        have HBU := hid hBu
        clear c0 c1' c2' c3' c4 c5 c6 c7 c8 hatk hfk hB hZ hBu hx
        go_wp2_with fail
        refine (HIH.out _ hszk.1 ts[j] (Nat.le_refl _) hszk.2 _ _ _ HATK.out (bOkL_get HOK.out j hlk)).mono ?_
        rintro e w2 ⟨v', f', rfl, hat', hf', hb'⟩
        obtain ⟨r0, r1, r2, r3, r4, r5, r6, r7, r8, r9, r10, r11, r12, r13, r14, rfl⟩ := hat'.agg
        obtain ⟨⟨y0, y1, y2, y3, y4, y5, y6, y7, y8, z0, z1, z2, z3, z4, z5, z6, z7, z8⟩, zz⟩ := (HBU.out.bx (U := 0) (Bx.of_below hb') (by omega)).cells hlk (Below.refl _ _)
        have HI2 := hid (HI.out.step (vs := [.int .i64 r0, .string r1, .int .i64 r2, .int .i64 r3, .slice r5 r4 r6, .int .i64 r7, .slice r9 r8 r10, .int .i64 r11, .slice r13 r12 r14]) hlk rfl hat' hf' hb')
        clear u0 u1 u2 u3 u4 u5 u6 u7 u8 x0 x1 x2 x3 x4 x5 x6 x7 x8 xz hat' hf' hb'
        go_wp2_with fail
        exact ⟨⟨j + 1, _, by omega, by go_num, HI2.out⟩, by simp [intOf]; omega⟩
      · obtain rfl : j = ts.length := by omega
        obtain ⟨y0, y1, y2, y3, y4, y5, y6, y7, y8⟩ := cells9 hZ
        have yz := fun o => frozen_of_block (o := o) hZ
        have hMr : w.heap.size + 1 < wr.heap.size := lt_of_block hZ
        have FIN := hid (fun (v8 : Value) => HI.out.done (v8 := v8) (k := k) (nm := nm) (num := num) (lb := 0) (vs := [.int .i64 k, .string nm, .int .i64 num, .int .i64 j1, .slice p1 m1 d1, .int .i64 j2, .slice p2 m2 d2, .int .i64 0, .slice (some ⟨w1.heap.size, 0, none⟩) ts.length ts.length]) (bareL_len ts) HNM.out (by have := HSL.out; unfold maxLen; omega) rfl)
        clear hB hZ hBu HI hx
        go_wp2_with fail
        obtain ⟨ff, q1, q2, q3⟩ := FIN.out (.slice (some ⟨w1.heap.size, 0, none⟩) ts.length ts.length)
        exact bodyPost_ret (v := .agg #[.int .i64 k, .string nm, .int .i64 num, .int .i64 j1, .slice p1 m1 d1, .int .i64 j2, .slice p2 m2 d2, .int .i64 0, .slice (some ⟨w1.heap.size, 0, none⟩) ts.length ts.length]) (by simp [results, Tryd.results60, go_sem, y0, y1, y2, y3, y4, y5, y6, y7, y8]) rfl ⟨_, ff, rfl, by rw [HBT.out]; exact q1, q2, q3⟩

theorem rewriteBare_any (t : Tm) (v : Value) (fp : List Nat) (w : World) (hsz : t.sz ≤ 1048576) (hok : bOk t) (hat : t.At w v fp) : Calls Tryd.prog 60 #[v, .func (.func 61) #[] #[]] w (MadeM w (bareT t)) :=
  rewriteBare t.sz t (Nat.le_refl _) hsz v fp w hat hok

theorem GrowM.own_ge' {B : Nat} {ds : List Tm} {v : Value} {fp : List Nat} {w : World} (h : GrowM B ds v fp w) : ∀ b, v.ownBlock = some b → B ≤ b ∧ b < w.heap.size := by
  obtain ⟨xs, ho, _⟩ := h
  exact ho.lt

/-- The loop over the operands: what stands behind j rounds. -/
def BsI (w : World) (bv : Array Value) (k : Int) (nm : ByteArray) (num tk : Int) (us : List Tm) (x8 : Value) (f : List Nat) (wr : World) : Prop :=
  wr.heap[w.heap.size]? = some (.cells bv 34 (0, 0)) ∧ wr.heap[w.heap.size + 1]? = some (Obj.cells #[.int .i64 0, .string ByteArray.empty, .int .i64 0, .int .i64 0, .slice none 0 0, .int .i64 0, .slice none 0 0, .int .i64 0, .slice none 0 0] 34) ∧ wr.heap[w.heap.size + 1 + 1]? = some (.cells #[.int .i64 k, .string nm, .int .i64 num, .int .i64 tk, .slice none 0 0, .int .i64 0, .slice none 0 0, .int .i64 0, x8] 34 (0, 0)) ∧ GrowM (w.heap.size + 1 + 1 + 1) us x8 f wr ∧ w.heap.size + 1 + 1 + 1 ≤ wr.heap.size ∧ Below w.heap.size w wr

theorem BsI.step {w wr w1 w3 : World} {bv : Array Value} {k : Int} {nm : ByteArray} {num tk : Int} {us : List Tm} {u : Tm} {x8 : Value} {f f' : List Nat} {vs xs : List Value} {g cp n : Nat} (h : BsI w bv k nm num tk us x8 f wr)
    (hb : Below wr.heap.size wr w1) (hat : u.At w1 (.agg vs.toArray) f') (hf : Fresh wr.heap.size w1 f') (ha1 : AtXM w1 us xs f) (hf1 : Fresh (w.heap.size + 1 + 1 + 1) w1 f) (hn1 : ∀ b, x8.ownBlock = some b → b ∉ f)
    (hgrow : (w1.alloc (Obj.cells vs.toArray 34)).grownBy w3 x8.ownBlock) (hown3 : w3.ownsRow (w.heap.size + 1 + 1 + 1) 34 9 (.slice (some ⟨g, 0, none⟩) n cp) n (xs ++ vs)) (hn : n = us.length + 1) (hat3 : x8.ownBlock = some g ∨ g = (w1.alloc (Obj.cells vs.toArray 34)).heap.size) :
    BsI w bv k nm num tk (us ++ [u]) (.slice (some ⟨g, 0, none⟩) n cp) (f ++ f') (w3.setCell ⟨w.heap.size + 1 + 1, 8, none⟩ (.slice (some ⟨g, 0, none⟩) n cp)) := by
  obtain ⟨hB, hZ, hO, hG, hs, hx⟩ := h
  have hge := hG.own_ge'
  have h9 : vs.length = 9 := by simpa using Tm.size9 hat
  have hG3 : GrowM (w.heap.size + 1 + 1 + 1) (us ++ [u]) (.slice (some ⟨g, 0, none⟩) n cp) (f ++ f') w3 := GrowM.step (w := wr) ha1 hf1 hn1 hG.block.1 hG.block.2 hs h9 hat hf ((Below.refl _ _).alloc (Nat.le_refl _) _) hgrow hown3 hn hat3
  have hs1 := hb.size
  have hw3 : Below (w.heap.size + 1 + 1 + 1) w1 w3 := ((Below.refl _ _).alloc (by omega) _).grown hgrow (by simp; omega) (fun b hb => by have := (hge b hb).1; omega)
  have hbb := (hb.mono (B' := w.heap.size + 1 + 1 + 1) (by omega)).trans hw3
  have hs3 := hbb.size
  refine ⟨blk_ne ((hbb.block _ (by omega)).trans hB) (by simp; omega), blk_ne ((hbb.block _ (by omega)).trans hZ) (by simp), ?_, hG3.setCell (p := ⟨w.heap.size + 1 + 1, 8, none⟩) (by simp) _, by rw [size_setCell]; omega, (hx.trans (hbb.mono (by omega))).setCell (p := ⟨w.heap.size + 1 + 1, 8, none⟩) (by simp; omega) _⟩
  rw [heap_setCell_at ((hbb.block _ (by omega)).trans hO)]
  rfl

theorem BsI.keep {w wr w1 w3 : World} {bv : Array Value} {k : Int} {nm : ByteArray} {num tk : Int} {us : List Tm} {x8 : Value} {f : List Nat} {vs : List Value} (h : BsI w bv k nm num tk us x8 f wr)
    (hb : Below wr.heap.size wr w1) (hgrow : (w1.alloc (Obj.cells vs.toArray 34)).grownBy w3 x8.ownBlock) : w3.heap[w.heap.size + 1 + 1]? = some (.cells #[.int .i64 k, .string nm, .int .i64 num, .int .i64 tk, .slice none 0 0, .int .i64 0, .slice none 0 0, .int .i64 0, x8] 34 (0, 0)) := by
  obtain ⟨hB, hZ, hO, hG, hs, hx⟩ := h
  have hge := hG.own_ge'
  have hs1 := hb.size
  have hw3 : Below (w.heap.size + 1 + 1 + 1) w1 w3 := ((Below.refl _ _).alloc (by omega) _).grown hgrow (by simp; omega) (fun b hb => by have := (hge b hb).1; omega)
  have hbb := (hb.mono (B' := w.heap.size + 1 + 1 + 1) (by omega)).trans hw3
  exact (hbb.block _ (by omega)).trans hO

theorem BsI.done {w wr : World} {bv : Array Value} {k : Int} {nm : ByteArray} {num tk : Int} {us : List Tm} {x8 : Value} {f : List Nat} (h : BsI w bv k nm num tk us x8 f wr) (hnm : nm.size ≤ 9223372036854775807) (hm : us.length ≤ maxLen) (ht : bty k = .mk tk []) :
    MadeM w (.mk k nm num (bty k) (.mk 0 []) 0 us) (.returned (.agg #[.int .i64 k, .string nm, .int .i64 num, .int .i64 tk, .slice none 0 0, .int .i64 0, .slice none 0 0, .int .i64 0, x8])) (put wr (w.heap.size + 1) 0 (#[.int .i64 k, .string nm, .int .i64 num, .int .i64 tk, .slice none 0 0, .int .i64 0, .slice none 0 0, .int .i64 0, x8]).toList) := by
  obtain ⟨hB, hZ, hO, hG, hs, hx⟩ := h
  obtain ⟨fp, hsm, hf⟩ := hG.done hm
  have ab : Above (w.heap.size + 1 + 1) wr (put wr (w.heap.size + 1) 0 (#[.int .i64 k, .string nm, .int .i64 num, .int .i64 tk, .slice none 0 0, .int .i64 0, .slice none 0 0, .int .i64 0, x8]).toList) := (Above.refl _ _).put (Nat.lt_succ_self _)
  have q3 := hsm.above ab (fun b hb => by have := hf.ge b hb; omega)
  have F2 := (hf.above ab (by omega)).mono (B' := w.heap.size) (by omega)
  refine ⟨_, [] ++ ([] ++ fp), rfl, Tm.at_mk.2 ⟨_, _, _, _, _, [], [], fp, rfl, hnm, ?_, Ty.at_mk.2 ⟨_, rfl, .inl ⟨rfl, rfl, _, _, rfl⟩⟩, rfl, q3⟩, by simpa using F2, below_put hx (by omega)⟩
  rw [ht]
  exact Ty.at_mk.2 ⟨_, rfl, .inl ⟨rfl, rfl, _, _, rfl⟩⟩

def BsC (t : Tm) : Prop := ∀ (v : Value) (fp : List Nat) (w : World), t.At w v fp → bOk t → t.sz ≤ 1048576 → Calls Tryd.prog 55 #[v] w (MadeM w (bareT t))

set_option maxRecDepth 100000 in
set_option maxHeartbeats 4000000 in
theorem l4Bare_of (k : Int) (nm : ByteArray) (num : Int) (ty fr : Ty) (lb : Int) (ts : List Tm) (ih : ∀ t ∈ ts, BsC t) : BsC (.mk k nm num ty fr lb ts) := by
  intro v fp w hat hok hsz
  have HIH := hid ih
  clear ih
  have hat0 := hat
  obtain ⟨k1, n1, a1, c1, k2, n2, a2, c2, a3, c3, f1, f2, f3, rfl, hnm, -, -, rfl, hs⟩ := hat.parts
  obtain ⟨a, cap, hss, hc, hm, hget⟩ := hs.open
  cases hss
  simp only [bOk, ndOk] at hok
  obtain ⟨⟨hkid, -, -, -⟩, hokL⟩ := hok
  have HG := hid hget
  have HOK := hid hokL
  have HNM := hid hnm
  have hsl : szML ts + ts.length ≤ 1048576 := by simp only [Tm.sz] at hsz; omega
  have HSL := hid hsl
  have hb0 : Below w.heap.size w ((w.alloc (Obj.cells #[.int .i64 k, .string nm, .int .i64 num, .int .i64 k1, .slice a1 n1 c1, .int .i64 k2, .slice a2 n2 c2, .int .i64 lb, .slice a3 ts.length c3] 34)).alloc (Obj.cells #[.int .i64 0, .string ByteArray.empty, .int .i64 0, .int .i64 0, .slice none 0 0, .int .i64 0, .slice none 0 0, .int .i64 0, .slice none 0 0] 34)) := ((Below.refl _ _).alloc (Nat.le_refl _) _).alloc (by simp) _
  have HB0 := hid hb0
  have hs0 : (((w.alloc (Obj.cells #[.int .i64 k, .string nm, .int .i64 num, .int .i64 k1, .slice a1 n1 c1, .int .i64 k2, .slice a2 n2 c2, .int .i64 lb, .slice a3 ts.length c3] 34)).alloc (Obj.cells #[.int .i64 0, .string ByteArray.empty, .int .i64 0, .int .i64 0, .slice none 0 0, .int .i64 0, .slice none 0 0, .int .i64 0, .slice none 0 0] 34))).heap.size = w.heap.size + 1 + 1 := by simp
  have HZ0 := hid hs0
  clear hat hat0 hs hget hokL hnm hsz hsl hb0 hs0
  by_cases h13 : k = 13 ∨ k = 14
  · have hlen : ts.length = 1 := by
      rcases h13 with rfl | rfl
      · have : kidsM 13 = 1 := by decide
        omega
      · have : kidsM 14 = 1 := by decide
        omega
    have hp : 0 < ts.length := by omega
    have hp' : (0 : Int) < (ts.length : Int) := by omega
    obtain ⟨b, o, q0, q1, q2, q3, q4, q5, q6, q7, q8, q9, q10, q11, q12, q13, q14, fk, ha3, hblt, c0, c1', c2', c3', c4, c5, c6, c7, c8, hatk, hfk⟩ := HG.out 0 hp
    have d0 := cell_keep c0 HB0.out
    have d1 := cell_keep c1' HB0.out
    have d2 := cell_keep c2' HB0.out
    have d3 := cell_keep c3' HB0.out
    have d4 := cell_keep c4 HB0.out
    have d5 := cell_keep c5 HB0.out
    have d6 := cell_keep c6 HB0.out
    have d7 := cell_keep c7 HB0.out
    have d8 := cell_keep c8 HB0.out
    simp only [Nat.zero_mul, Nat.add_zero] at d0 d1 d2 d3 d4 d5 d6 d7 d8 c0 c1' c2' c3' c4 c5 c6 c7 c8
    have hszk : ts[0].sz ≤ 1048576 := by have := HSL.out; have := sz_mem (List.getElem_mem hp); omega
    have HCALL := hid (HIH.out _ (List.getElem_mem hp) _ _ ((w.alloc (Obj.cells #[.int .i64 k, .string nm, .int .i64 num, .int .i64 k1, .slice a1 n1 c1, .int .i64 k2, .slice a2 n2 c2, .int .i64 lb, .slice a3 ts.length c3] 34)).alloc (Obj.cells #[.int .i64 0, .string ByteArray.empty, .int .i64 0, .int .i64 0, .slice none 0 0, .int .i64 0, .slice none 0 0, .int .i64 0, .slice none 0 0] 34)) (hatk.below HB0.out) (bOkL_get HOK.out 0 hp) hszk)
    have HBT := hid (show bareT (.mk k nm num ty fr lb ts) = bareT ts[0] from bareT_cast h13 hp)
    rw [HBT.out]
    generalize bareT ts[0] = R at *
    obtain ⟨x0, x1, x2, x3, x4, x5, x6, x7, x8⟩ := box9 (Below.refl (w.alloc (Obj.cells #[.int .i64 k, .string nm, .int .i64 num, .int .i64 k1, .slice a1 n1 c1, .int .i64 k2, .slice a2 n2 c2, .int .i64 lb, .slice a3 ts.length c3] 34)).heap.size (w.alloc (Obj.cells #[.int .i64 k, .string nm, .int .i64 num, .int .i64 k1, .slice a1 n1 c1, .int .i64 k2, .slice a2 n2 c2, .int .i64 lb, .slice a3 ts.length c3] 34)))
    clear hatk hfk hkid hlen hszk
    subst ha3
    rcases h13 with rfl | rfl
    all_goals
      go_enter Tryd.func55, Tryd.ntmps55
      go_wp2_with fail
      refine HCALL.out.mono ?_
      rintro e w1 ⟨v', f', rfl, hat', hf', hb1⟩
      obtain ⟨r0, r1, r2, r3, r4, r5, r6, r7, r8, r9, r10, r11, r12, r13, r14, rfl⟩ := hat'.agg
      obtain ⟨hB, hZ⟩ := two_out hb1
      obtain ⟨y0, y1, y2, y3, y4, y5, y6, y7, y8⟩ := cells9 hZ
      have yz := fun o => frozen_of_block (o := o) hZ
      have hM : w.heap.size + 1 < w1.heap.size := lt_of_block hZ
      rw [HZ0.out] at hf'
      have ab : Above (w.heap.size + 1 + 1) w1 (put w1 (w.heap.size + 1) 0 [.int .i64 r0, .string r1, .int .i64 r2, .int .i64 r3, .slice r5 r4 r6, .int .i64 r7, .slice r9 r8 r10, .int .i64 r11, .slice r13 r12 r14]) := (Above.refl _ _).put (Nat.lt_succ_self _)
      have FIN := hid (show MadeM w R (.returned (.agg (Array.mk [.int .i64 r0, .string r1, .int .i64 r2, .int .i64 r3, .slice r5 r4 r6, .int .i64 r7, .slice r9 r8 r10, .int .i64 r11, .slice r13 r12 r14]))) (put w1 (w.heap.size + 1) 0 [.int .i64 r0, .string r1, .int .i64 r2, .int .i64 r3, .slice r5 r4 r6, .int .i64 r7, .slice r9 r8 r10, .int .i64 r11, .slice r13 r12 r14]) from ⟨_, f', rfl, hat'.above ab hf'.ge, (hf'.above ab (Nat.le_refl _)).mono (by omega), below_put (below_trans HB0.out hb1) (by omega)⟩)
      clear hat' hf' hb1 hB hZ ab
      go_wp2_with fail
      exact bodyPost_ret (v := .agg (Array.mk [.int .i64 r0, .string r1, .int .i64 r2, .int .i64 r3, .slice r5 r4 r6, .int .i64 r7, .slice r9 r8 r10, .int .i64 r11, .slice r13 r12 r14])) (by simp [results, Tryd.results55, go_sem, y0, y1, y2, y3, y4, y5, y6, y7, y8]) rfl FIN.out
  · have HBT := hid (show bareT (.mk k nm num ty fr lb ts) = .mk k nm num (bty k) (.mk 0 []) 0 (bareL ts) by simp only [bareT]; rw [if_neg h13]; rfl)
    rw [HBT.out]
    have h13' : (k == 13) = false := by simp; omega
    have h14' : (k == 14) = false := by simp; omega
    clear hkid
    by_cases h5 : k = 5
    · have e5 : (k == 5) = true := by simpa using h5
      have HTK := hid (show bty k = .mk 1 [] by unfold bty; rw [if_pos h5])
      clear h5 h13
      go_enter Tryd.func55, Tryd.ntmps55
      go_wp2_with fail
      refine (l1Any_any _).mono ?_
      rintro e w1 ⟨rfl, hb1⟩
      obtain ⟨hB, hZ, hO⟩ := three_out hb1
      obtain ⟨x0, x1, x2, x3, x4, x5, x6, x7, x8⟩ := cells9 hB
      obtain ⟨y0, y1, y2, y3, y4, y5, y6, y7, y8⟩ := cells9 hO
      have yz := fun o => frozen_of_block (o := o) hO
      have hM : w.heap.size + 1 + 1 < w1.heap.size := lt_of_block hO
      have hb3 : Below w.heap.size w w1 := below_trans (((HB0.out).alloc (by simp; omega) (Obj.cells #[.int .i64 k, .string nm, .int .i64 num, .int .i64 0, .slice none 0 0, .int .i64 0, .slice none 0 0, .int .i64 0, .slice none 0 0] 34))) hb1
      have HI0 := hid (show BsI w #[.int .i64 k, .string nm, .int .i64 num, .int .i64 k1, .slice a1 n1 c1, .int .i64 k2, .slice a2 n2 c2, .int .i64 lb, .slice a3 ts.length c3] k nm num 1 ((bareL ts).take 0) (.slice none 0 0) [] ((w1.setCell ⟨w.heap.size + 1 + 1, 3, none⟩ (.int .i64 1)).setCell ⟨w.heap.size + 1 + 1, 4, none⟩ (.slice none 0 0)) from
        ⟨blk_ne (blk_ne hB (by simp; omega)) (by simp; omega), blk_ne (blk_ne hZ (by simp)) (by simp), heap_setCell_at (heap_setCell_at hO _) _, by rw [List.take_zero]; exact GrowM.zero _ _, by rw [size_setCell, size_setCell]; omega, (hb3.setCell (p := ⟨w.heap.size + 1 + 1, 3, none⟩) (by simp; omega) _).setCell (p := ⟨w.heap.size + 1 + 1, 4, none⟩) (by simp; omega) _⟩)
      clear hB hZ hO hb1 hb3
      go_wp2_with fail
      clear x0 x1 x2 x3 x4 x5 x6 x7 x8 y0 y1 y2 y3 y4 y5 y6 y7 y8 yz
      go_loopw [4] (fun i wr => ∃ (j : Nat) (x : Value) (f : List Nat), j ≤ ts.length ∧ i = .int .i64 j ∧ BsI w #[.int .i64 k, .string nm, .int .i64 num, .int .i64 k1, .slice a1 n1 c1, .int .i64 k2, .slice a2 n2 c2, .int .i64 lb, .slice a3 ts.length c3] k nm num 1 ((bareL ts).take j) x f wr) (fun i _ => ts.length - (intOf i).toNat)
      case atStart => exact ⟨0, _, [], Nat.zero_le _, rfl, HI0.out⟩
      case round =>
        obtain ⟨j, x, f, hj, rfl, hI⟩ := hrel
        have hI0 := hI
        obtain ⟨hB, hZ, hO, hG, hs3, hx⟩ := hI0
        have hlen : ((bareL ts).take j).length = j := by rw [List.length_take, bareL_len]; omega
        obtain ⟨av, capv, hshape⟩ := hG.shape
        rw [hlen] at hshape
        subst hshape
        obtain ⟨x0, x1, x2, x3, x4, x5, x6, x7, x8⟩ := cells9 hB
        obtain ⟨y0, y1, y2, y3, y4, y5, y6, y7, y8⟩ := cells9 hO
        have yz := fun o => frozen_of_block (o := o) hO
        have HI := hid hI
        have HLEN := hid hlen
        clear hI hlen
        have hM : w.heap.size + 1 + 1 < wr.heap.size := by omega
        by_cases hlk : j < ts.length
        · obtain ⟨b, o, q0, q1, q2, q3, q4, q5, q6, q7, q8, q9, q10, q11, q12, q13, q14, fk, rfl, hblt, c0, c1', c2', c3', c4, c5, c6, c7, c8, hatk, hfk⟩ := HG.out j hlk
          have u0 := (hx.cell (p := ⟨b, o + j * 9, none⟩) hblt).trans c0
          have u1 := (hx.cell (p := ⟨b, o + j * 9 + 1, none⟩) hblt).trans c1'
          have u2 := (hx.cell (p := ⟨b, o + j * 9 + 2, none⟩) hblt).trans c2'
          have u3 := (hx.cell (p := ⟨b, o + j * 9 + 3, none⟩) hblt).trans c3'
          have u4 := (hx.cell (p := ⟨b, o + j * 9 + 4, none⟩) hblt).trans c4
          have u5 := (hx.cell (p := ⟨b, o + j * 9 + 5, none⟩) hblt).trans c5
          have u6 := (hx.cell (p := ⟨b, o + j * 9 + 6, none⟩) hblt).trans c6
          have u7 := (hx.cell (p := ⟨b, o + j * 9 + 7, none⟩) hblt).trans c7
          have u8 := (hx.cell (p := ⟨b, o + j * 9 + 8, none⟩) hblt).trans c8
          have HATK := hid (hatk.below hx)
          have hszk : ts[j].sz ≤ 1048576 := by have := HSL.out; have := sz_mem (List.getElem_mem hlk); omega
          have hj0 : (0 : Int) ≤ (j : Int) := by omega
          have hj1 : (j : Int) < (ts.length : Int) := by omega
          obtain ⟨i0, hi0, hz0, hz1, hz2⟩ := info_parts (P := Tryd.prog) (e := 34) Tryd.infoTm
          clear c0 c1' c2' c3' c4 c5 c6 c7 c8 hatk hfk hB hZ
          go_wp2_with fail
          have hmx : j + 1 ≤ maxLen := by unfold maxLen; have := HSL.out; omega
          have hby : (j + 1) * 128 ≤ 140737488355328 := by have := HSL.out; omega
          go_region_law (first
            | (refine step_append_lies _ (by rfl) _ _ _ (by rfl) (w.heap.size + 1 + 1 + 1) 34 i0 _ 9 128 Tryd.underElemsM hi0 hz0 hz1 hz2 rfl (by omega) (.slice av j capv) j xs (by rfl) (ho2.alloc _) ⟨w1.heap.size, 0, none⟩ 1 1 [.int .i64 r0, .string r1, .int .i64 r2, .int .i64 r3, .slice r5 r4 r6, .int .i64 r7, .slice r9 r8 r10, .int .i64 r11, .slice r13 r12 r14] (by rfl) (by rfl) (World.news_of_block (cs := #[.int .i64 r0, .string r1, .int .i64 r2, .int .i64 r3, .slice r5 r4 r6, .int .i64 r7, .slice r9 r8 r10, .int .i64 r11, .slice r13 r12 r14]) (t := 34) (fr := (0, 0)) (heap_alloc_new w1 _)) (by simp [Value.oneCell']) (by omega) hmx hby (by simp; omega) (w1.heap.size + 1) (by simp) ?_; intro g cp w3 hown3 hgrow hat3 hlt3; have hO3 := HI.out.keep (vs := [.int .i64 r0, .string r1, .int .i64 r2, .int .i64 r3, .slice r5 r4 r6, .int .i64 r7, .slice r9 r8 r10, .int .i64 r11, .slice r13 r12 r14]) hbd hgrow; have z1 := (cell_of_block (o := 8) hO3); have z2 := (frozen_of_block (o := 8) hO3))
            | (go_simp; go_at_call 55; refine (HIH.out _ (List.getElem_mem hlk) _ _ _ (HATK.out.below (below_drew wr)) (bOkL_get HOK.out j hlk) hszk).mono ?_; rintro e w1 ⟨v1, f', rfl, hat', hf', hb1⟩; obtain ⟨r0, r1, r2, r3, r4, r5, r6, r7, r8, r9, r10, r11, r12, r13, r14, rfl⟩ := hat'.agg; have hbd := below_trans (below_drew wr) hb1; have x0' := cell_keep x0 hbd; have x1' := cell_keep x1 hbd; have x2' := cell_keep x2 hbd; have x3' := cell_keep x3 hbd; have x4' := cell_keep x4 hbd; have x5' := cell_keep x5 hbd; have x6' := cell_keep x6 hbd; have x7' := cell_keep x7 hbd; have x8' := cell_keep x8 hbd; have y0' := cell_keep y0 hbd; have y1' := cell_keep y1 hbd; have y2' := cell_keep y2 hbd; have y3' := cell_keep y3 hbd; have y4' := cell_keep y4 hbd; have y5' := cell_keep y5 hbd; have y6' := cell_keep y6 hbd; have y7' := cell_keep y7 hbd; have y8' := cell_keep y8 hbd; have u0' := cell_keep u0 hbd; have u1' := cell_keep u1 hbd; have u2' := cell_keep u2 hbd; have u3' := cell_keep u3 hbd; have u4' := cell_keep u4 hbd; have u5' := cell_keep u5 hbd; have u6' := cell_keep u6 hbd; have u7' := cell_keep u7 hbd; have u8' := cell_keep u8 hbd; obtain ⟨xs, ho1, ha1, hf1, hn1⟩ := hG.below hbd; have ho2 := ho1; rw [HLEN.out] at ho2; have hO1 := (hbd.block _ hM).trans hO; have hM1 := lt_of_block hO1))
          all_goals
            have HI2 := hid (HI.out.step (vs := [.int .i64 r0, .string r1, .int .i64 r2, .int .i64 r3, .slice r5 r4 r6, .int .i64 r7, .slice r9 r8 r10, .int .i64 r11, .slice r13 r12 r14]) (n := j + 1) hbd hat' hf' ha1 hf1 hn1 hgrow hown3 (by rw [HLEN.out]) (by simpa using hat3))
            rw [← bareL_take ts j hlk] at HI2
            have hM3 := lt_of_block hO3
            clear hO1 hO ha1 hf1 hn1 hat' hf' hgrow hown3 hat3 hlt3 ho1 ho2 hbd hG hO3 x0 x0' x1 x1' x2 x2' x3 x3' x4 x4' x5 x5' x6 x6' x7 x7' x8 x8' y0 y0' y1 y1' y2 y2' y3 y3' y4 y4' y5 y5' y6 y6' y7 y7' y8 y8' u0 u0' u1 u1' u2 u2' u3 u3' u4 u4' u5 u5' u6 u6' u7 u7' u8 u8' yz
            go_wp2_with fail
            exact ⟨⟨j + 1, _, _, by omega, by go_num, HI2.out⟩, by simp [intOf]; omega⟩
        · obtain rfl : j = ts.length := by omega
          rw [show (bareL ts).take ts.length = bareL ts from List.take_of_length_le (by rw [bareL_len]; omega)] at HI
          have FIN := hid (HI.out.done HNM.out (by rw [bareL_len]; have := HSL.out; unfold maxLen; omega) HTK.out)
          obtain ⟨z0, z1, z2, z3, z4, z5, z6, z7, z8⟩ := cells9 hZ
          have zz := fun o => frozen_of_block (o := o) hZ
          clear hB hZ hO hG hx HI
          go_wp2_with fail
          exact bodyPost_ret (v := .agg #[.int .i64 k, .string nm, .int .i64 num, .int .i64 1, .slice none 0 0, .int .i64 0, .slice none 0 0, .int .i64 0, .slice av ts.length capv]) (by simp [results, Tryd.results55, go_sem, z0, z1, z2, z3, z4, z5, z6, z7, z8]) rfl FIN.out
    · have e5 : (k == 5) = false := by simpa using h5
      have HTK := hid (show bty k = .mk 0 [] by unfold bty; rw [if_neg h5])
      clear h5 h13
      go_enter Tryd.func55, Tryd.ntmps55
      go_wp2_with fail
      have HI0 := hid (show BsI w #[.int .i64 k, .string nm, .int .i64 num, .int .i64 k1, .slice a1 n1 c1, .int .i64 k2, .slice a2 n2 c2, .int .i64 lb, .slice a3 ts.length c3] k nm num 0 ((bareL ts).take 0) (.slice none 0 0) [] ((((w.alloc (Obj.cells #[.int .i64 k, .string nm, .int .i64 num, .int .i64 k1, .slice a1 n1 c1, .int .i64 k2, .slice a2 n2 c2, .int .i64 lb, .slice a3 ts.length c3] 34)).alloc (Obj.cells #[.int .i64 0, .string ByteArray.empty, .int .i64 0, .int .i64 0, .slice none 0 0, .int .i64 0, .slice none 0 0, .int .i64 0, .slice none 0 0] 34))).alloc (Obj.cells #[.int .i64 k, .string nm, .int .i64 num, .int .i64 0, .slice none 0 0, .int .i64 0, .slice none 0 0, .int .i64 0, .slice none 0 0] 34)) from by
        obtain ⟨hB, hZ, hO⟩ := three_out (Below.refl ((((w.alloc (Obj.cells #[.int .i64 k, .string nm, .int .i64 num, .int .i64 k1, .slice a1 n1 c1, .int .i64 k2, .slice a2 n2 c2, .int .i64 lb, .slice a3 ts.length c3] 34)).alloc (Obj.cells #[.int .i64 0, .string ByteArray.empty, .int .i64 0, .int .i64 0, .slice none 0 0, .int .i64 0, .slice none 0 0, .int .i64 0, .slice none 0 0] 34))).alloc (Obj.cells #[.int .i64 k, .string nm, .int .i64 num, .int .i64 0, .slice none 0 0, .int .i64 0, .slice none 0 0, .int .i64 0, .slice none 0 0] 34)).heap.size ((((w.alloc (Obj.cells #[.int .i64 k, .string nm, .int .i64 num, .int .i64 k1, .slice a1 n1 c1, .int .i64 k2, .slice a2 n2 c2, .int .i64 lb, .slice a3 ts.length c3] 34)).alloc (Obj.cells #[.int .i64 0, .string ByteArray.empty, .int .i64 0, .int .i64 0, .slice none 0 0, .int .i64 0, .slice none 0 0, .int .i64 0, .slice none 0 0] 34))).alloc (Obj.cells #[.int .i64 k, .string nm, .int .i64 num, .int .i64 0, .slice none 0 0, .int .i64 0, .slice none 0 0, .int .i64 0, .slice none 0 0] 34)))
        exact ⟨hB, hZ, hO, by rw [List.take_zero]; exact GrowM.zero _ _, by simp, (HB0.out).alloc (by simp; omega) (Obj.cells #[.int .i64 k, .string nm, .int .i64 num, .int .i64 0, .slice none 0 0, .int .i64 0, .slice none 0 0, .int .i64 0, .slice none 0 0] 34)⟩)
      go_loopw [4] (fun i wr => ∃ (j : Nat) (x : Value) (f : List Nat), j ≤ ts.length ∧ i = .int .i64 j ∧ BsI w #[.int .i64 k, .string nm, .int .i64 num, .int .i64 k1, .slice a1 n1 c1, .int .i64 k2, .slice a2 n2 c2, .int .i64 lb, .slice a3 ts.length c3] k nm num 0 ((bareL ts).take j) x f wr) (fun i _ => ts.length - (intOf i).toNat)
      case atStart => exact ⟨0, _, [], Nat.zero_le _, rfl, HI0.out⟩
      case round =>
        obtain ⟨j, x, f, hj, rfl, hI⟩ := hrel
        have hI0 := hI
        obtain ⟨hB, hZ, hO, hG, hs3, hx⟩ := hI0
        have hlen : ((bareL ts).take j).length = j := by rw [List.length_take, bareL_len]; omega
        obtain ⟨av, capv, hshape⟩ := hG.shape
        rw [hlen] at hshape
        subst hshape
        obtain ⟨x0, x1, x2, x3, x4, x5, x6, x7, x8⟩ := cells9 hB
        obtain ⟨y0, y1, y2, y3, y4, y5, y6, y7, y8⟩ := cells9 hO
        have yz := fun o => frozen_of_block (o := o) hO
        have HI := hid hI
        have HLEN := hid hlen
        clear hI hlen
        have hM : w.heap.size + 1 + 1 < wr.heap.size := by omega
        by_cases hlk : j < ts.length
        · obtain ⟨b, o, q0, q1, q2, q3, q4, q5, q6, q7, q8, q9, q10, q11, q12, q13, q14, fk, rfl, hblt, c0, c1', c2', c3', c4, c5, c6, c7, c8, hatk, hfk⟩ := HG.out j hlk
          have u0 := (hx.cell (p := ⟨b, o + j * 9, none⟩) hblt).trans c0
          have u1 := (hx.cell (p := ⟨b, o + j * 9 + 1, none⟩) hblt).trans c1'
          have u2 := (hx.cell (p := ⟨b, o + j * 9 + 2, none⟩) hblt).trans c2'
          have u3 := (hx.cell (p := ⟨b, o + j * 9 + 3, none⟩) hblt).trans c3'
          have u4 := (hx.cell (p := ⟨b, o + j * 9 + 4, none⟩) hblt).trans c4
          have u5 := (hx.cell (p := ⟨b, o + j * 9 + 5, none⟩) hblt).trans c5
          have u6 := (hx.cell (p := ⟨b, o + j * 9 + 6, none⟩) hblt).trans c6
          have u7 := (hx.cell (p := ⟨b, o + j * 9 + 7, none⟩) hblt).trans c7
          have u8 := (hx.cell (p := ⟨b, o + j * 9 + 8, none⟩) hblt).trans c8
          have HATK := hid (hatk.below hx)
          have hszk : ts[j].sz ≤ 1048576 := by have := HSL.out; have := sz_mem (List.getElem_mem hlk); omega
          have hj0 : (0 : Int) ≤ (j : Int) := by omega
          have hj1 : (j : Int) < (ts.length : Int) := by omega
          obtain ⟨i0, hi0, hz0, hz1, hz2⟩ := info_parts (P := Tryd.prog) (e := 34) Tryd.infoTm
          clear c0 c1' c2' c3' c4 c5 c6 c7 c8 hatk hfk hB hZ
          go_wp2_with fail
          have hmx : j + 1 ≤ maxLen := by unfold maxLen; have := HSL.out; omega
          have hby : (j + 1) * 128 ≤ 140737488355328 := by have := HSL.out; omega
          go_region_law (first
            | (refine step_append_lies _ (by rfl) _ _ _ (by rfl) (w.heap.size + 1 + 1 + 1) 34 i0 _ 9 128 Tryd.underElemsM hi0 hz0 hz1 hz2 rfl (by omega) (.slice av j capv) j xs (by rfl) (ho2.alloc _) ⟨w1.heap.size, 0, none⟩ 1 1 [.int .i64 r0, .string r1, .int .i64 r2, .int .i64 r3, .slice r5 r4 r6, .int .i64 r7, .slice r9 r8 r10, .int .i64 r11, .slice r13 r12 r14] (by rfl) (by rfl) (World.news_of_block (cs := #[.int .i64 r0, .string r1, .int .i64 r2, .int .i64 r3, .slice r5 r4 r6, .int .i64 r7, .slice r9 r8 r10, .int .i64 r11, .slice r13 r12 r14]) (t := 34) (fr := (0, 0)) (heap_alloc_new w1 _)) (by simp [Value.oneCell']) (by omega) hmx hby (by simp; omega) (w1.heap.size + 1) (by simp) ?_; intro g cp w3 hown3 hgrow hat3 hlt3; have hO3 := HI.out.keep (vs := [.int .i64 r0, .string r1, .int .i64 r2, .int .i64 r3, .slice r5 r4 r6, .int .i64 r7, .slice r9 r8 r10, .int .i64 r11, .slice r13 r12 r14]) hbd hgrow; have z1 := (cell_of_block (o := 8) hO3); have z2 := (frozen_of_block (o := 8) hO3))
            | (go_simp; go_at_call 55; refine (HIH.out _ (List.getElem_mem hlk) _ _ _ (HATK.out.below (below_drew wr)) (bOkL_get HOK.out j hlk) hszk).mono ?_; rintro e w1 ⟨v1, f', rfl, hat', hf', hb1⟩; obtain ⟨r0, r1, r2, r3, r4, r5, r6, r7, r8, r9, r10, r11, r12, r13, r14, rfl⟩ := hat'.agg; have hbd := below_trans (below_drew wr) hb1; have x0' := cell_keep x0 hbd; have x1' := cell_keep x1 hbd; have x2' := cell_keep x2 hbd; have x3' := cell_keep x3 hbd; have x4' := cell_keep x4 hbd; have x5' := cell_keep x5 hbd; have x6' := cell_keep x6 hbd; have x7' := cell_keep x7 hbd; have x8' := cell_keep x8 hbd; have y0' := cell_keep y0 hbd; have y1' := cell_keep y1 hbd; have y2' := cell_keep y2 hbd; have y3' := cell_keep y3 hbd; have y4' := cell_keep y4 hbd; have y5' := cell_keep y5 hbd; have y6' := cell_keep y6 hbd; have y7' := cell_keep y7 hbd; have y8' := cell_keep y8 hbd; have u0' := cell_keep u0 hbd; have u1' := cell_keep u1 hbd; have u2' := cell_keep u2 hbd; have u3' := cell_keep u3 hbd; have u4' := cell_keep u4 hbd; have u5' := cell_keep u5 hbd; have u6' := cell_keep u6 hbd; have u7' := cell_keep u7 hbd; have u8' := cell_keep u8 hbd; obtain ⟨xs, ho1, ha1, hf1, hn1⟩ := hG.below hbd; have ho2 := ho1; rw [HLEN.out] at ho2; have hO1 := (hbd.block _ hM).trans hO; have hM1 := lt_of_block hO1))
          all_goals
            have HI2 := hid (HI.out.step (vs := [.int .i64 r0, .string r1, .int .i64 r2, .int .i64 r3, .slice r5 r4 r6, .int .i64 r7, .slice r9 r8 r10, .int .i64 r11, .slice r13 r12 r14]) (n := j + 1) hbd hat' hf' ha1 hf1 hn1 hgrow hown3 (by rw [HLEN.out]) (by simpa using hat3))
            rw [← bareL_take ts j hlk] at HI2
            have hM3 := lt_of_block hO3
            clear hO1 hO ha1 hf1 hn1 hat' hf' hgrow hown3 hat3 hlt3 ho1 ho2 hbd hG hO3 x0 x0' x1 x1' x2 x2' x3 x3' x4 x4' x5 x5' x6 x6' x7 x7' x8 x8' y0 y0' y1 y1' y2 y2' y3 y3' y4 y4' y5 y5' y6 y6' y7 y7' y8 y8' u0 u0' u1 u1' u2 u2' u3 u3' u4 u4' u5 u5' u6 u6' u7 u7' u8 u8' yz
            go_wp2_with fail
            exact ⟨⟨j + 1, _, _, by omega, by go_num, HI2.out⟩, by simp [intOf]; omega⟩
        · obtain rfl : j = ts.length := by omega
          rw [show (bareL ts).take ts.length = bareL ts from List.take_of_length_le (by rw [bareL_len]; omega)] at HI
          have FIN := hid (HI.out.done HNM.out (by rw [bareL_len]; have := HSL.out; unfold maxLen; omega) HTK.out)
          obtain ⟨z0, z1, z2, z3, z4, z5, z6, z7, z8⟩ := cells9 hZ
          have zz := fun o => frozen_of_block (o := o) hZ
          clear hB hZ hO hG hx HI
          go_wp2_with fail
          exact bodyPost_ret (v := .agg #[.int .i64 k, .string nm, .int .i64 num, .int .i64 0, .slice none 0 0, .int .i64 0, .slice none 0 0, .int .i64 0, .slice av ts.length capv]) (by simp [results, Tryd.results55, go_sem, z0, z1, z2, z3, z4, z5, z6, z7, z8]) rfl FIN.out

theorem l4Bare_any (t : Tm) : BsC t := Tm.ind l4Bare_of t

end Go.Proofs.YtbmlodikfmpfoaaDoor

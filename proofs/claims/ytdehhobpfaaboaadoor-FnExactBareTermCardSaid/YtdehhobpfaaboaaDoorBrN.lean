/- A term without casts and types; the program's change of one node. -/
import Derived.Test.YtdehhobpfaaboaaDoorBx
import Derived.Test.YtdehhobpfaaboaaDoorCv
namespace Go.Proofs.YtdehhobpfaaboaaDoor
open Go.RowKit

mutual
/-- The term without casts, ascriptions and types. -/
def bareT : Tm → Tm
  | .mk k nm num _ _ _ ts => if k = 13 ∨ k = 14 then bareH ts else .mk k nm num (if k = 5 then .mk 1 [] else .mk 0 []) (.mk 0 []) 0 (bareL ts)
def bareH : List Tm → Tm
  | [] => .mk 0 ByteArray.empty 0 (.mk 0 []) (.mk 0 []) 0 []
  | t :: _ => bareT t
def bareL : List Tm → List Tm
  | [] => []
  | t :: ts => bareT t :: bareL ts
end

theorem bareL_len : ∀ ts : List Tm, (bareL ts).length = ts.length
  | [] => by simp only [bareL, List.length_nil]
  | t :: ts => by simp only [bareL, List.length_cons, bareL_len ts]

theorem bareL_take : ∀ (ts : List Tm) (j : Nat) (h : j < ts.length), (bareL ts).take (j + 1) = (bareL ts).take j ++ [bareT ts[j]]
  | t :: ts, 0, _ => by simp [bareL]
  | t :: ts, j + 1, h => by
    have := bareL_take ts j (by simpa using h)
    simp only [bareL, List.take_succ_cons, List.getElem_cons_succ, List.cons_append, this]

/-- What a node of a valid term says. -/
def ndOk (k : Int) (ty fr : Ty) (lb : Int) (n : Nat) : Prop := kidsM k = (n : Int) ∧ okTy ty ∧ okTy fr ∧ (k ≠ 13 → k ≠ 14 → (k ≠ 5 → ty = .mk 0 []) ∧ fr = .mk 0 [] ∧ lb = 0)

mutual
/-- A term, plain or with casts, whose nodes are right. -/
def bOk : Tm → Prop
  | .mk k _ _ ty fr lb ts => ndOk k ty fr lb ts.length ∧ bOkL ts
def bOkL : List Tm → Prop
  | [] => True
  | t :: ts => bOk t ∧ bOkL ts
end

theorem bOkL_get : ∀ {ts : List Tm} (_ : bOkL ts) (j : Nat) (h : j < ts.length), bOk ts[j]
  | t :: ts, h, 0, _ => by simp only [bOkL] at h; exact h.1
  | t :: ts, h, j + 1, hj => by simp only [bOkL] at h; exact bOkL_get h.2 j (by simpa using hj)

theorem bOkL_all {f : Tm → Bool} : ∀ {ts : List Tm} (_ : ts.all f = true) (_ : ∀ t, f t = true → bOk t), bOkL ts
  | [], _, _ => by simp only [bOkL]
  | t :: ts, h, hf => by
    rw [List.all_cons, Bool.and_eq_true] at h
    simp only [bOkL]
    exact ⟨hf t h.1, bOkL_all h.2 hf⟩

theorem own_ok {k : Int} {nm : ByteArray} {num : Int} {ty fr : Ty} {lb : Int} (h : ownM k nm num ty fr lb = true) (h14 : k ≠ 14) : okTy ty ∧ okTy fr ∧ (k ≠ 13 → k ≠ 14 → (k ≠ 5 → ty = .mk 0 []) ∧ fr = .mk 0 [] ∧ lb = 0) := by
  have e14 : (k == 14) = false := by simpa using h14
  simp only [ownM, e14, Bool.false_or, Bool.and_eq_true, beq_iff_eq] at h
  obtain ⟨⟨⟨-, hty⟩, hfr, hlb⟩, -⟩ := h
  by_cases h5 : k = 5 ∨ k = 13 ∨ k = 14
  · rw [if_pos h5] at hty
    exact ⟨.inl (wf_of_vld hty), .inr hfr, fun h13 _ => ⟨fun h => by omega, noTy_eq hfr, hlb⟩⟩
  · rw [if_neg h5] at hty
    exact ⟨.inr hty, .inr hfr, fun _ _ => ⟨fun _ => noTy_eq hty, noTy_eq hfr, hlb⟩⟩

theorem bOk_shpM : ∀ (d : Nat) (t : Tm), shpM d t = true → bOk t
  | 0, _, h => by simp [shpM] at h
  | d + 1, .mk k nm num ty fr lb ts, h => by
    simp only [shpM, Bool.and_eq_true, beq_iff_eq] at h
    obtain ⟨⟨⟨hk, h14⟩, hown⟩, hall⟩ := h
    have h14' : k ≠ 14 := by simpa using h14
    obtain ⟨q1, q2, q3⟩ := own_ok hown h14'
    simp only [bOk, ndOk]
    exact ⟨⟨hk, q1, q2, q3⟩, bOkL_all hall (bOk_shpM d)⟩

theorem bOk_shpC : ∀ (d : Nat) (t : Tm), shpC d t = true → bOk t
  | 0, _, h => by simp [shpC] at h
  | d + 1, .mk k nm num ty fr lb ts, h => by
    simp only [shpC, Bool.and_eq_true, beq_iff_eq] at h
    obtain ⟨⟨⟨hk, -⟩, hown⟩, hall⟩ := h
    simp only [bOk, ndOk]
    by_cases h14 : k = 14
    · rw [if_pos h14] at hown
      simp only [own4, Bool.and_eq_true] at hown
      obtain ⟨⟨⟨-, hv1⟩, hv2⟩, -⟩ := hown
      exact ⟨⟨hk, .inl (wf_of_vld hv1), .inl (wf_of_vld hv2), fun _ h => absurd h14 h⟩, bOkL_all hall (bOk_shpC d)⟩
    · rw [if_neg h14] at hown
      obtain ⟨q1, q2, q3⟩ := own_ok hown h14
      exact ⟨⟨hk, q1, q2, q3⟩, bOkL_all hall (bOk_shpC d)⟩

theorem bareT_cast {k : Int} {nm : ByteArray} {num : Int} {ty fr : Ty} {lb : Int} {ts : List Tm} (h : k = 13 ∨ k = 14) (hp : 0 < ts.length) : bareT (.mk k nm num ty fr lb ts) = bareT ts[0] := by
  cases ts with
  | nil => simp at hp
  | cons t ts => simp only [bareT, if_pos h, bareH, List.getElem_cons_zero]

mutual
/-- The node below the casts and ascriptions. -/
def strp : Tm → Tm
  | .mk k nm num ty fr lb ts => if k = 13 ∨ k = 14 then strpH ts else .mk k nm num ty fr lb ts
def strpH : List Tm → Tm
  | [] => .mk 0 ByteArray.empty 0 (.mk 0 []) (.mk 0 []) 0 []
  | t :: _ => strp t
end

theorem strp_cast {k : Int} {nm : ByteArray} {num : Int} {ty fr : Ty} {lb : Int} {ts : List Tm} (h : k = 13 ∨ k = 14) (hp : 0 < ts.length) : strp (.mk k nm num ty fr lb ts) = strp ts[0] := by
  cases ts with
  | nil => simp at hp
  | cons t ts => simp only [strp, if_pos h, strpH, List.getElem_cons_zero]

theorem strp_not {k : Int} {nm : ByteArray} {num : Int} {ty fr : Ty} {lb : Int} {ts : List Tm} (h : ¬(k = 13 ∨ k = 14)) : strp (.mk k nm num ty fr lb ts) = .mk k nm num ty fr lb ts := by
  simp only [strp, if_neg h]

theorem bareT_strp : ∀ t : Tm, bareT (strp t) = bareT t := Tm.ind fun k nm num ty fr lb ts ih => by
  by_cases h : k = 13 ∨ k = 14
  · cases ts with
    | nil =>
      simp only [strp, if_pos h, strpH, bareT, bareH, bareL]
      rfl
    | cons t ts =>
      rw [strp_cast h (by simp), bareT_cast h (by simp)]
      exact ih t (by simp)
  · rw [strp_not h]

/-- The type of a node of the result. -/
def bty (k : Int) : Ty := if k = 5 then .mk 1 [] else .mk 0 []

/-- The node below the casts: its kind, name, number and operands. -/
def StpOf (t : Tm) (k : Int) (nm : ByteArray) (num : Int) (ts : List Tm) : Prop := ¬(k = 13 ∨ k = 14) ∧ ∃ ty fr lb, strp t = .mk k nm num ty fr lb ts

theorem StpOf.bare {t : Tm} {k : Int} {nm : ByteArray} {num : Int} {ts : List Tm} (h : StpOf t k nm num ts) : bareT t = .mk k nm num (bty k) (.mk 0 []) 0 (bareL ts) := by
  obtain ⟨hk, ty, fr, lb, e⟩ := h
  rw [← bareT_strp, e]
  simp only [bareT]
  rw [if_neg hk]
  rfl

/-- What the change of a node says: the node below the casts, with types of its own; its operands stay. -/
def BnOut (w : World) (t : Tm) (fp : List Nat) (e : Ending) (w' : World) : Prop :=
  ∃ k nm num ts a3 c3 f3 k1 n1 a1 c1 k2 n2 a2 c2 g1 g2, StpOf t k nm num ts ∧ bOkL ts ∧ szML ts + ts.length ≤ t.sz ∧ nm.size ≤ 9223372036854775807 ∧ SmAt w ts (.slice a3 ts.length c3) f3 ∧ (∀ b ∈ f3, b ∈ fp) ∧
    e = .returned (.tuple #[.agg #[.int .i64 k, .string nm, .int .i64 num, .int .i64 k1, .slice a1 n1 c1, .int .i64 k2, .slice a2 n2 c2, .int .i64 0, .slice a3 ts.length c3], .bool true]) ∧
    Ty.At w' (bty k) (.agg #[.int .i64 k1, .slice a1 n1 c1]) g1 ∧ Ty.At w' (.mk 0 []) (.agg #[.int .i64 k2, .slice a2 n2 c2]) g2 ∧ Fresh w.heap.size w' (g1 ++ g2) ∧ Below w.heap.size w w'

/-- What stands ahead of a round of the loop. -/
def BnR (w : World) (t : Tm) (fp : List Nat) (u : Tm) (vs : Array Value) (fu : List Nat) (wr : World) : Prop :=
  wr.heap[w.heap.size]? = some (.cells vs 34 (0, 0)) ∧ wr.heap[w.heap.size + 1]? = some (Obj.cells #[.int .i64 0, .string ByteArray.empty, .int .i64 0, .int .i64 0, .slice none 0 0, .int .i64 0, .slice none 0 0, .int .i64 0, .slice none 0 0] 34) ∧ u.At w (.agg vs) fu ∧ (∀ b ∈ fu, b ∈ fp) ∧ bOk u ∧ strp u = strp t ∧ u.sz ≤ t.sz ∧ Below w.heap.size w wr

set_option maxRecDepth 100000 in
set_option maxHeartbeats 4000000 in
theorem bareNode_any (t : Tm) (v : Value) (fp : List Nat) (w : World) (hok : bOk t) (hat : t.At w v fp) : Calls Tryd.prog 89 #[v] w (BnOut w t fp) := by
  have hat0 := hat
  obtain ⟨k, nm, num, k1, n1, a1, c1, k2, n2, a2, c2, lb, n3, a3, c3, rfl⟩ := hat.agg
  have HR0 := hid (show BnR w t fp t #[.int .i64 k, .string nm, .int .i64 num, .int .i64 k1, .slice a1 n1 c1, .int .i64 k2, .slice a2 n2 c2, .int .i64 lb, .slice a3 n3 c3] fp ((w.alloc (Obj.cells #[.int .i64 k, .string nm, .int .i64 num, .int .i64 k1, .slice a1 n1 c1, .int .i64 k2, .slice a2 n2 c2, .int .i64 lb, .slice a3 n3 c3] 34)).alloc (Obj.cells #[.int .i64 0, .string ByteArray.empty, .int .i64 0, .int .i64 0, .slice none 0 0, .int .i64 0, .slice none 0 0, .int .i64 0, .slice none 0 0] 34)) from ⟨by obtain ⟨a, b⟩ := two_out (Below.refl (((w.alloc (Obj.cells #[.int .i64 k, .string nm, .int .i64 num, .int .i64 k1, .slice a1 n1 c1, .int .i64 k2, .slice a2 n2 c2, .int .i64 lb, .slice a3 n3 c3] 34)).alloc (Obj.cells #[.int .i64 0, .string ByteArray.empty, .int .i64 0, .int .i64 0, .slice none 0 0, .int .i64 0, .slice none 0 0, .int .i64 0, .slice none 0 0] 34))).heap.size ((w.alloc (Obj.cells #[.int .i64 k, .string nm, .int .i64 num, .int .i64 k1, .slice a1 n1 c1, .int .i64 k2, .slice a2 n2 c2, .int .i64 lb, .slice a3 n3 c3] 34)).alloc (Obj.cells #[.int .i64 0, .string ByteArray.empty, .int .i64 0, .int .i64 0, .slice none 0 0, .int .i64 0, .slice none 0 0, .int .i64 0, .slice none 0 0] 34))); exact a, by obtain ⟨a, b⟩ := two_out (Below.refl (((w.alloc (Obj.cells #[.int .i64 k, .string nm, .int .i64 num, .int .i64 k1, .slice a1 n1 c1, .int .i64 k2, .slice a2 n2 c2, .int .i64 lb, .slice a3 n3 c3] 34)).alloc (Obj.cells #[.int .i64 0, .string ByteArray.empty, .int .i64 0, .int .i64 0, .slice none 0 0, .int .i64 0, .slice none 0 0, .int .i64 0, .slice none 0 0] 34))).heap.size ((w.alloc (Obj.cells #[.int .i64 k, .string nm, .int .i64 num, .int .i64 k1, .slice a1 n1 c1, .int .i64 k2, .slice a2 n2 c2, .int .i64 lb, .slice a3 n3 c3] 34)).alloc (Obj.cells #[.int .i64 0, .string ByteArray.empty, .int .i64 0, .int .i64 0, .slice none 0 0, .int .i64 0, .slice none 0 0, .int .i64 0, .slice none 0 0] 34))); exact b, hat0, fun _ h => h, hok, rfl, Nat.le_refl _, ((Below.refl _ _).alloc (Nat.le_refl _) _).alloc (by simp) _⟩)
  clear hat hat0 hok
  go_enter Tryd.func89, Tryd.ntmps89
  go_wp2_with fail
  go_loopg [] (t.sz + 1) (fun n wr => ∃ u vs fu, BnR w t fp u vs fu wr ∧ u.sz ≤ n ∧ n ≤ t.sz + 1)
  case atStart => exact ⟨_, _, _, HR0.out, by omega, Nat.le_refl _⟩
  case round =>
    obtain ⟨u, vs, fu, hR, hw1, hw2⟩ := hrel
    obtain ⟨hB, hZ, hu, hfu, hok, hbt, hszu, hbw⟩ := hR
    obtain ⟨kk, mm, uu, ty, fr, ll, ts, rfl⟩ := u.shape
    obtain ⟨y1, s1, b1, h1, y2, s2, b2, h2, b3, d3, f1, f2, f3, hv, hnm, ht1, ht2, rfl, hs⟩ := hu.parts
    obtain rfl : vs = #[.int .i64 kk, .string mm, .int .i64 uu, .int .i64 y1, .slice b1 s1 h1, .int .i64 y2, .slice b2 s2 h2, .int .i64 ll, .slice b3 ts.length d3] := by injection hv
    simp only [bOk, ndOk] at hok
    obtain ⟨⟨hkid, hty, hfr, hno⟩, hokL⟩ := hok
    clear hv hu
    by_cases h13 : kk = 13 ∨ kk = 14
    · have hlen : ts.length = 1 := by
        rcases h13 with rfl | rfl
        · have : kidsM 13 = 1 := by decide
          omega
        · have : kidsM 14 = 1 := by decide
          omega
      have hp : 0 < ts.length := by omega
      have hp' : (0 : Int) < (ts.length : Int) := by omega
      obtain ⟨a, cap, hss, hc, hm, hget⟩ := hs.open
      cases hss
      obtain ⟨b, o, r0, r1, r2, r3, r4, r5, r6, r7, r8, r9, r10, r11, r12, r13, r14, fk, rfl, hblt, c0, c1', c2', c3', c4, c5, c6, c7, c8, hatk, hfk⟩ := hget 0 hp
      have HN := hid (show BnR w t fp ts[0] #[.int .i64 r0, .string r1, .int .i64 r2, .int .i64 r3, .slice r5 r4 r6, .int .i64 r7, .slice r9 r8 r10, .int .i64 r11, .slice r13 r12 r14] fk (put wr w.heap.size 0 [.int .i64 r0, .string r1, .int .i64 r2, .int .i64 r3, .slice r5 r4 r6, .int .i64 r7, .slice r9 r8 r10, .int .i64 r11, .slice r13 r12 r14]) from
        ⟨(heap_put hB).trans (by simp only [putA, List.setIfInBounds_toArray, List.set]), (heap_put_ne (by omega)).trans hZ, hatk, fun x hx => hfu x (by simp [hfk x hx]), bOkL_get hokL 0 hp, by rw [← hbt]; exact (strp_cast h13 hp).symm, by have := sz_mem (List.getElem_mem hp); simp only [Tm.sz] at hszu; omega, below_put hbw (Nat.le_refl _)⟩)
      have hsz1 : ts[0].sz < gk := by have := sz_mem (List.getElem_mem hp); simp only [Tm.sz] at hw1; omega
      have HSZ := hid hsz1
      have d0 := (hbw.cell (p := ⟨b, o + 0 * 9, none⟩) hblt).trans c0
      have d1 := (hbw.cell (p := ⟨b, o + 0 * 9 + 1, none⟩) hblt).trans c1'
      have d2 := (hbw.cell (p := ⟨b, o + 0 * 9 + 2, none⟩) hblt).trans c2'
      have d3' := (hbw.cell (p := ⟨b, o + 0 * 9 + 3, none⟩) hblt).trans c3'
      have d4 := (hbw.cell (p := ⟨b, o + 0 * 9 + 4, none⟩) hblt).trans c4
      have d5 := (hbw.cell (p := ⟨b, o + 0 * 9 + 5, none⟩) hblt).trans c5
      have d6 := (hbw.cell (p := ⟨b, o + 0 * 9 + 6, none⟩) hblt).trans c6
      have d7 := (hbw.cell (p := ⟨b, o + 0 * 9 + 7, none⟩) hblt).trans c7
      have d8 := (hbw.cell (p := ⟨b, o + 0 * 9 + 8, none⟩) hblt).trans c8
      simp only [Nat.zero_mul, Nat.add_zero] at d0 d1 d2 d3' d4 d5 d6 d7 d8
      simp only [put, Nat.zero_add, Nat.reduceAdd] at HN
      obtain ⟨x0, x1, x2, x3, x4, x5, x6, x7, x8⟩ := cells9 hB
      have xz := fun o => frozen_of_block (o := o) hB
      have hwr : w.heap.size < wr.heap.size := lt_of_block hB
      have hblw : b < w.heap.size := hblt
      clear c0 c1' c2' c3' c4 c5 c6 c7 c8 hatk hfk hget hs ht1 ht2 hB hZ hbw hfu hbt hszu hno hty hfr hokL hkid hsz1
      rcases h13 with rfl | rfl
      all_goals
        go_wp2_with fail
        go_roundg (ts[0].sz)
        case measure => exact HSZ.out
        case rel => exact ⟨_, _, _, HN.out, Nat.le_refl _, by have := HSZ.out; omega⟩
    · have h13' : (kk == 13) = false := by simp; omega
      have h14' : (kk == 14) = false := by simp; omega
      obtain ⟨hty0, rfl, rfl⟩ := hno (by omega) (by omega)
      obtain ⟨x0, x1, x2, x3, x4, x5, x6, x7, x8⟩ := cells9 hB
      have xz := fun o => frozen_of_block (o := o) hB
      have HA := hid (And.intro ht1 ht2)
      have HO := hid (And.intro hty hfr)
      have HBW := hid hbw
      have HBB := hid (And.intro hB hZ)
      have HX := hid (show StpOf t kk mm uu ts ∧ bOkL ts ∧ szML ts + ts.length ≤ t.sz ∧ mm.size ≤ 9223372036854775807 ∧ SmAt w ts (.slice b3 ts.length d3) f3 ∧ (∀ b ∈ f3, b ∈ fp) from
        ⟨⟨h13, ty, .mk 0 [], 0, by rw [← hbt]; exact strp_not h13⟩, hokL, by simp only [Tm.sz] at hszu; omega, hnm, hs, fun x hx => hfu x (by simp [hx])⟩)
      clear ht1 ht2 hty hfr hbw hB hZ hs hfu hbt hszu hokL hkid hw1 hw2 hnm hno
      by_cases h5 : kk = 5
      · have e5 : (kk == 5) = true := by simpa using h5
        have HK := hid h5
        clear h5 hty0 h13
        go_wp2_with fail
        refine (copyNode_any kk mm uu ty (.mk 0 []) 0 b3 ts.length d3 y1 y2 s1 s2 h1 h2 b1 b2 f1 f2 _ (HA.out.1.below HBW.out) (HA.out.2.below HBW.out) HO.out.1 HO.out.2).mono ?_
        rintro e w1 ⟨j1, m1, p1, g1c, j2, m2, p2, g2c, g1, g2, rfl, hv1, hv2, hg, hb1⟩
        have hB1 := blk HBB.out.1 hb1
        have hZ1 := blk HBB.out.2 hb1
        clear x0 x1 x2 x3 x4 x5 x6 x7 x8 xz
        obtain ⟨x0, x1, x2, x3, x4, x5, x6, x7, x8⟩ := cells9 hB1
        obtain ⟨z0, z1, z2, z3, z4, z5, z6, z7, z8⟩ := cells9 hZ1
        have xz := fun o => frozen_of_block (o := o) hB1
        have zz := fun o => frozen_of_block (o := o) hZ1
        have hM : w.heap.size + 1 < w1.heap.size := lt_of_block hZ1
        have hwr : w.heap.size + 1 < wr.heap.size := lt_of_block HBB.out.2
        have hg' : Fresh (w.heap.size + 1 + 1) w1 (g1 ++ g2) := hg.mono (by omega)
        have b0 := below_trans HBW.out hb1
        have ab : Above (w.heap.size + 1 + 1) w1 (put (((put w1 w.heap.size 0 [.int .i64 kk, .string mm, .int .i64 uu, .int .i64 j1, .slice p1 m1 g1c, .int .i64 j2, .slice p2 m2 g2c, .int .i64 0, .slice b3 ts.length d3]).setCell ⟨w.heap.size, 3, none⟩ (.int .i64 1)).setCell ⟨w.heap.size, 4, none⟩ (.slice none 0 0)) (w.heap.size + 1) 0 [.int .i64 kk, .string mm, .int .i64 uu, .int .i64 1, .slice none 0 0, .int .i64 j2, .slice p2 m2 g2c, .int .i64 0, .slice b3 ts.length d3]) := Above.put ((((Above.refl (w.heap.size + 1 + 1) w1).put (vs := [.int .i64 kk, .string mm, .int .i64 uu, .int .i64 j1, .slice p1 m1 g1c, .int .i64 j2, .slice p2 m2 g2c, .int .i64 0, .slice b3 ts.length d3]) (o := 0) (b := w.heap.size) (by omega)).setCell (p := ⟨w.heap.size, 3, none⟩) (by simp; omega) (.int .i64 1)).setCell (p := ⟨w.heap.size, 4, none⟩) (by simp; omega) (.slice none 0 0)) (by omega)
        have bb : Below w.heap.size w (put (((put w1 w.heap.size 0 [.int .i64 kk, .string mm, .int .i64 uu, .int .i64 j1, .slice p1 m1 g1c, .int .i64 j2, .slice p2 m2 g2c, .int .i64 0, .slice b3 ts.length d3]).setCell ⟨w.heap.size, 3, none⟩ (.int .i64 1)).setCell ⟨w.heap.size, 4, none⟩ (.slice none 0 0)) (w.heap.size + 1) 0 [.int .i64 kk, .string mm, .int .i64 uu, .int .i64 1, .slice none 0 0, .int .i64 j2, .slice p2 m2 g2c, .int .i64 0, .slice b3 ts.length d3]) := below_put (((below_put (vs := [.int .i64 kk, .string mm, .int .i64 uu, .int .i64 j1, .slice p1 m1 g1c, .int .i64 j2, .slice p2 m2 g2c, .int .i64 0, .slice b3 ts.length d3]) (o := 0) b0 (Nat.le_refl _)).setCell (p := ⟨w.heap.size, 3, none⟩) (Nat.le_refl _) (.int .i64 1)).setCell (p := ⟨w.heap.size, 4, none⟩) (Nat.le_refl _) (.slice none 0 0)) (by omega)
        have gf : Fresh (w.heap.size + 1 + 1) w1 ([] ++ g2) := ⟨(List.nodup_append.1 hg'.1).2.1, fun b hb => hg'.2 b (by simp at hb; simp [hb])⟩
        have FIN := hid (show BnOut w t fp (.returned (.tuple #[.agg #[.int .i64 kk, .string mm, .int .i64 uu, .int .i64 1, .slice none 0 0, .int .i64 j2, .slice p2 m2 g2c, .int .i64 0, .slice b3 ts.length d3], .bool true])) (put (((put w1 w.heap.size 0 [.int .i64 kk, .string mm, .int .i64 uu, .int .i64 j1, .slice p1 m1 g1c, .int .i64 j2, .slice p2 m2 g2c, .int .i64 0, .slice b3 ts.length d3]).setCell ⟨w.heap.size, 3, none⟩ (.int .i64 1)).setCell ⟨w.heap.size, 4, none⟩ (.slice none 0 0)) (w.heap.size + 1) 0 [.int .i64 kk, .string mm, .int .i64 uu, .int .i64 1, .slice none 0 0, .int .i64 j2, .slice p2 m2 g2c, .int .i64 0, .slice b3 ts.length d3]) from
          ⟨kk, mm, uu, ts, b3, d3, f3, 1, 0, none, 0, j2, m2, p2, g2c, [], g2, HX.out.1, HX.out.2.1, HX.out.2.2.1, HX.out.2.2.2.1, HX.out.2.2.2.2.1, HX.out.2.2.2.2.2, rfl, by unfold bty; rw [if_pos HK.out]; exact Ty.at_mk.2 ⟨_, rfl, .inl ⟨rfl, rfl, _, _, rfl⟩⟩, hv2.above ab (fun b hb => hg'.ge b (by simp [hb])), (gf.above ab (Nat.le_refl _)).mono (by omega), bb⟩)
        clear hv1 hv2 hg hg' hb1 b0 ab bb gf
        have HBZ := hid (And.intro hB1 hZ1)
        clear hB1 hZ1
        go_upto_region 4 with (fail)
        generalize hW2 : (((((((((w1.setCell ⟨w.heap.size, 0, none⟩ (.int .i64 kk)).setCell ⟨w.heap.size, 1, none⟩ (.string mm)).setCell ⟨w.heap.size, 2, none⟩ (.int .i64 uu)).setCell ⟨w.heap.size, 3, none⟩ (.int .i64 j1)).setCell ⟨w.heap.size, 4, none⟩ (.slice p1 m1 g1c)).setCell ⟨w.heap.size, 5, none⟩ (.int .i64 j2)).setCell ⟨w.heap.size, 6, none⟩ (.slice p2 m2 g2c)).setCell ⟨w.heap.size, 7, none⟩ (.int .i64 0)).setCell ⟨w.heap.size, 8, none⟩ (.slice b3 ts.length d3)) = W2
        have e2 : W2 = put w1 w.heap.size 0 [.int .i64 kk, .string mm, .int .i64 uu, .int .i64 j1, .slice p1 m1 g1c, .int .i64 j2, .slice p2 m2 g2c, .int .i64 0, .slice b3 ts.length d3] := by rw [← hW2]; simp only [put, Nat.zero_add, Nat.reduceAdd]
        have hB2 : W2.heap[w.heap.size]? = some (.cells (Array.mk [.int .i64 kk, .string mm, .int .i64 uu, .int .i64 j1, .slice p1 m1 g1c, .int .i64 j2, .slice p2 m2 g2c, .int .i64 0, .slice b3 ts.length d3]) 34 (0, 0)) := by
          rw [e2, heap_put HBZ.out.1]
          simp only [putA, List.setIfInBounds_toArray, List.set]
        have hZ2 : W2.heap[w.heap.size + 1]? = some (Obj.cells #[.int .i64 0, .string ByteArray.empty, .int .i64 0, .int .i64 0, .slice none 0 0, .int .i64 0, .slice none 0 0, .int .i64 0, .slice none 0 0] 34) := by rw [e2, heap_put_ne (by omega)]; exact HBZ.out.2
        rw [← e2] at FIN
        clear x0 x1 x2 x3 x4 x5 x6 x7 x8 z0 z1 z2 z3 z4 z5 z6 z7 z8 xz zz hM hwr e2 hW2 HBZ
        obtain ⟨x0, x1, x2, x3, x4, x5, x6, x7, x8⟩ := cells9 hB2
        obtain ⟨z0, z1, z2, z3, z4, z5, z6, z7, z8⟩ := cells9 hZ2
        have xz := fun o => frozen_of_block (o := o) hB2
        have zz := fun o => frozen_of_block (o := o) hZ2
        have hM2 : w.heap.size + 1 < W2.heap.size := lt_of_block hZ2
        simp only [put, Nat.zero_add, Nat.reduceAdd] at FIN
        clear hB2 hZ2
        go_wp2_with fail
        exact bodyPost_ret (v := .tuple #[.agg #[.int .i64 kk, .string mm, .int .i64 uu, .int .i64 1, .slice none 0 0, .int .i64 j2, .slice p2 m2 g2c, .int .i64 0, .slice b3 ts.length d3], .bool true]) (by simp [results, Tryd.results89, go_sem, z0, z1, z2, z3, z4, z5, z6, z7, z8]) rfl FIN.out
      · have e5 : (kk == 5) = false := by simpa using h5
        have HK := hid h5
        have HY := hid (hty0 h5)
        clear h5 hty0 h13
        go_wp2_with fail
        refine (copyNode_any kk mm uu ty (.mk 0 []) 0 b3 ts.length d3 y1 y2 s1 s2 h1 h2 b1 b2 f1 f2 _ (HA.out.1.below HBW.out) (HA.out.2.below HBW.out) HO.out.1 HO.out.2).mono ?_
        rintro e w1 ⟨j1, m1, p1, g1c, j2, m2, p2, g2c, g1, g2, rfl, hv1, hv2, hg, hb1⟩
        have hB1 := blk HBB.out.1 hb1
        have hZ1 := blk HBB.out.2 hb1
        clear x0 x1 x2 x3 x4 x5 x6 x7 x8 xz
        obtain ⟨x0, x1, x2, x3, x4, x5, x6, x7, x8⟩ := cells9 hB1
        obtain ⟨z0, z1, z2, z3, z4, z5, z6, z7, z8⟩ := cells9 hZ1
        have xz := fun o => frozen_of_block (o := o) hB1
        have zz := fun o => frozen_of_block (o := o) hZ1
        have hM : w.heap.size + 1 < w1.heap.size := lt_of_block hZ1
        have hwr : w.heap.size + 1 < wr.heap.size := lt_of_block HBB.out.2
        have hg' : Fresh (w.heap.size + 1 + 1) w1 (g1 ++ g2) := hg.mono (by omega)
        have b0 := below_trans HBW.out hb1
        have ab : Above (w.heap.size + 1 + 1) w1 (put (put w1 w.heap.size 0 [.int .i64 kk, .string mm, .int .i64 uu, .int .i64 j1, .slice p1 m1 g1c, .int .i64 j2, .slice p2 m2 g2c, .int .i64 0, .slice b3 ts.length d3]) (w.heap.size + 1) 0 [.int .i64 kk, .string mm, .int .i64 uu, .int .i64 j1, .slice p1 m1 g1c, .int .i64 j2, .slice p2 m2 g2c, .int .i64 0, .slice b3 ts.length d3]) := Above.put ((Above.refl (w.heap.size + 1 + 1) w1).put (vs := [.int .i64 kk, .string mm, .int .i64 uu, .int .i64 j1, .slice p1 m1 g1c, .int .i64 j2, .slice p2 m2 g2c, .int .i64 0, .slice b3 ts.length d3]) (o := 0) (b := w.heap.size) (by omega)) (by omega)
        have bb : Below w.heap.size w (put (put w1 w.heap.size 0 [.int .i64 kk, .string mm, .int .i64 uu, .int .i64 j1, .slice p1 m1 g1c, .int .i64 j2, .slice p2 m2 g2c, .int .i64 0, .slice b3 ts.length d3]) (w.heap.size + 1) 0 [.int .i64 kk, .string mm, .int .i64 uu, .int .i64 j1, .slice p1 m1 g1c, .int .i64 j2, .slice p2 m2 g2c, .int .i64 0, .slice b3 ts.length d3]) := below_put (below_put (vs := [.int .i64 kk, .string mm, .int .i64 uu, .int .i64 j1, .slice p1 m1 g1c, .int .i64 j2, .slice p2 m2 g2c, .int .i64 0, .slice b3 ts.length d3]) (o := 0) b0 (Nat.le_refl _)) (by omega)
        have FIN := hid (show BnOut w t fp (.returned (.tuple #[.agg #[.int .i64 kk, .string mm, .int .i64 uu, .int .i64 j1, .slice p1 m1 g1c, .int .i64 j2, .slice p2 m2 g2c, .int .i64 0, .slice b3 ts.length d3], .bool true])) (put (put w1 w.heap.size 0 [.int .i64 kk, .string mm, .int .i64 uu, .int .i64 j1, .slice p1 m1 g1c, .int .i64 j2, .slice p2 m2 g2c, .int .i64 0, .slice b3 ts.length d3]) (w.heap.size + 1) 0 [.int .i64 kk, .string mm, .int .i64 uu, .int .i64 j1, .slice p1 m1 g1c, .int .i64 j2, .slice p2 m2 g2c, .int .i64 0, .slice b3 ts.length d3]) from
          ⟨kk, mm, uu, ts, b3, d3, f3, j1, m1, p1, g1c, j2, m2, p2, g2c, g1, g2, HX.out.1, HX.out.2.1, HX.out.2.2.1, HX.out.2.2.2.1, HX.out.2.2.2.2.1, HX.out.2.2.2.2.2, rfl, by unfold bty; rw [if_neg HK.out, ← HY.out]; exact hv1.above ab (fun b hb => hg'.ge b (by simp [hb])), hv2.above ab (fun b hb => hg'.ge b (by simp [hb])), (hg'.above ab (Nat.le_refl _)).mono (by omega), bb⟩)
        clear hv1 hv2 hg hg' hb1 b0 ab bb
        have HBZ := hid (And.intro hB1 hZ1)
        clear hB1 hZ1
        go_upto_region 4 with (fail)
        generalize hW2 : (((((((((w1.setCell ⟨w.heap.size, 0, none⟩ (.int .i64 kk)).setCell ⟨w.heap.size, 1, none⟩ (.string mm)).setCell ⟨w.heap.size, 2, none⟩ (.int .i64 uu)).setCell ⟨w.heap.size, 3, none⟩ (.int .i64 j1)).setCell ⟨w.heap.size, 4, none⟩ (.slice p1 m1 g1c)).setCell ⟨w.heap.size, 5, none⟩ (.int .i64 j2)).setCell ⟨w.heap.size, 6, none⟩ (.slice p2 m2 g2c)).setCell ⟨w.heap.size, 7, none⟩ (.int .i64 0)).setCell ⟨w.heap.size, 8, none⟩ (.slice b3 ts.length d3)) = W2
        have e2 : W2 = put w1 w.heap.size 0 [.int .i64 kk, .string mm, .int .i64 uu, .int .i64 j1, .slice p1 m1 g1c, .int .i64 j2, .slice p2 m2 g2c, .int .i64 0, .slice b3 ts.length d3] := by rw [← hW2]; simp only [put, Nat.zero_add, Nat.reduceAdd]
        have hB2 : W2.heap[w.heap.size]? = some (.cells (Array.mk [.int .i64 kk, .string mm, .int .i64 uu, .int .i64 j1, .slice p1 m1 g1c, .int .i64 j2, .slice p2 m2 g2c, .int .i64 0, .slice b3 ts.length d3]) 34 (0, 0)) := by
          rw [e2, heap_put HBZ.out.1]
          simp only [putA, List.setIfInBounds_toArray, List.set]
        have hZ2 : W2.heap[w.heap.size + 1]? = some (Obj.cells #[.int .i64 0, .string ByteArray.empty, .int .i64 0, .int .i64 0, .slice none 0 0, .int .i64 0, .slice none 0 0, .int .i64 0, .slice none 0 0] 34) := by rw [e2, heap_put_ne (by omega)]; exact HBZ.out.2
        rw [← e2] at FIN
        clear x0 x1 x2 x3 x4 x5 x6 x7 x8 z0 z1 z2 z3 z4 z5 z6 z7 z8 xz zz hM hwr e2 hW2 HBZ
        obtain ⟨x0, x1, x2, x3, x4, x5, x6, x7, x8⟩ := cells9 hB2
        obtain ⟨z0, z1, z2, z3, z4, z5, z6, z7, z8⟩ := cells9 hZ2
        have xz := fun o => frozen_of_block (o := o) hB2
        have zz := fun o => frozen_of_block (o := o) hZ2
        have hM2 : w.heap.size + 1 < W2.heap.size := lt_of_block hZ2
        simp only [put, Nat.zero_add, Nat.reduceAdd] at FIN
        clear hB2 hZ2
        go_wp2_with fail
        exact bodyPost_ret (v := .tuple #[.agg #[.int .i64 kk, .string mm, .int .i64 uu, .int .i64 j1, .slice p1 m1 g1c, .int .i64 j2, .slice p2 m2 g2c, .int .i64 0, .slice b3 ts.length d3], .bool true]) (by simp [results, Tryd.results89, go_sem, z0, z1, z2, z3, z4, z5, z6, z7, z8]) rfl FIN.out
end Go.Proofs.YtdehhobpfaaboaaDoor

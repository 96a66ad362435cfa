/- The free names of a term: a set's bits; the specification's l2Free. The program's eachFree and sets as texts. The program's FreeNames. -/
import Derived.Test.YtffmpjcjmffdeaaDoorVPkD
import Derived.Test.YtffmpjcjmffdeaaDoorVG12
import Derived.Test.YtffmpjcjmffdeaaDoorVG5
import Derived.Test.YtffmpjcjmffdeaaDoorVG14
namespace Go.Proofs.YtffmpjcjmffdeaaDoor
open Go.RowKit

/-- A set of names as the specification writes it. -/
def strN (m : Nat) : ByteArray := ⟨(lst m).toArray⟩

/-- The number of a name's letter. -/
def ixN (nm : ByteArray) : Nat := (nm.data[0]?.getD 0).toNat - 97

mutual
def frN : Nat → Nat → Tm → Nat
  | b, a, .mk k nm _ _ _ _ ts => frL (if k = 5 then b ||| 2 ^ ixN nm else b) (if k = 1 ∧ b.testBit (ixN nm) = false then a ||| 2 ^ ixN nm else a) ts
def frL : Nat → Nat → List Tm → Nat
  | _, a, [] => a
  | b, a, t :: ts => frL b (frN b a t) ts
end

theorem frL_take : ∀ (ts : List Tm) (b a : Nat) (j : Nat) (h : j < ts.length), frL b a (ts.take (j + 1)) = frN b (frL b a (ts.take j)) ts[j]
  | t :: ts, b, a, 0, _ => by simp [frL]
  | t :: ts, b, a, j + 1, h => by
    simp only [List.take_succ_cons, frL, List.getElem_cons_succ]
    exact frL_take ts b _ j (by simpa using h)

theorem isNm_parts {nm : ByteArray} (h : isNm nm = true) : ∃ c : UInt8, nm = ⟨#[c]⟩ ∧ c.toNat = 97 + ixN nm ∧ ixN nm < 26 := by
  simp only [isNm, Bool.and_eq_true, beq_iff_eq, decide_eq_true_eq] at h
  obtain ⟨⟨h1, h2⟩, h3⟩ := h
  obtain ⟨c, rfl⟩ := one_byte h1
  refine ⟨c, rfl, ?_, ?_⟩
  · simp [ixN] at h2 ⊢; omega
  · simp [ixN] at h3 ⊢; omega

theorem shpM_parts {d : Nat} {k : Int} {nm : ByteArray} {num : Int} {ty fr : Ty} {lb : Int} {ts : List Tm} (h : shpM d (.mk k nm num ty fr lb ts) = true) : ∃ d', (∀ t ∈ ts, shpM d' t = true) ∧ (k = 1 ∨ k = 5 → isNm nm = true) := by
  cases d with
  | zero => simp [shpM] at h
  | succ d =>
    simp only [shpM, Bool.and_eq_true] at h
    refine ⟨d, fun t ht => List.all_eq_true.1 h.2 t ht, fun e => ?_⟩
    have := h.1.2
    unfold ownM at this
    rw [if_pos e] at this
    simp only [Bool.and_eq_true] at this
    exact this.1.1.1

mutual
theorem frN_lt : ∀ (t : Tm) (d b a : Nat), shpM d t = true → b < 67108864 → a < 67108864 → frN b a t < 67108864
  | .mk k nm num ty fr lb ts, d, b, a, h, hb, ha => by
    obtain ⟨d', h1, h2⟩ := shpM_parts h
    simp only [frN]
    refine frL_lt ts d' _ _ h1 ?_ ?_
    · split
      · rename_i hk
        obtain ⟨c, _, _, h3⟩ := isNm_parts (h2 (.inr hk))
        exact fr_orlt hb h3
      · exact hb
    · split
      · rename_i hk
        obtain ⟨c, _, _, h3⟩ := isNm_parts (h2 (.inl hk.1))
        exact fr_orlt ha h3
      · exact ha
theorem frL_lt : ∀ (ts : List Tm) (d b a : Nat), (∀ t ∈ ts, shpM d t = true) → b < 67108864 → a < 67108864 → frL b a ts < 67108864
  | [], d, b, a, _, _, ha => by simpa [frL] using ha
  | t :: ts, d, b, a, h, hb, ha => by
    simp only [frL]
    exact frL_lt ts d b _ (fun t ht => h t (List.mem_cons_of_mem _ ht)) hb (frN_lt t d b a (h t List.mem_cons_self) hb ha)
end

theorem frL_take_lt {ts : List Tm} {d b a : Nat} (h : ∀ t ∈ ts, shpM d t = true) (hb : b < 67108864) (ha : a < 67108864) (j : Nat) : frL b a (ts.take j) < 67108864 :=
  frL_lt _ d b a (fun t ht => h t (List.mem_of_mem_take ht)) hb ha

/-- The free names of a valid term. -/
def freeS (t : Tm) : ByteArray := if vldM t then strN (frN 0 0 t) else ⟨#[]⟩

theorem vldM_shp {t : Tm} (h : vldM t = true) : shpM 12 t = true := by
  unfold vldM at h
  simp only [Bool.and_eq_true] at h
  exact h.1

end Go.Proofs.YtffmpjcjmffdeaaDoor

namespace Go.Proofs.YtffmpjcjmffdeaaDoor
open Go.RowKit

theorem callOk_fr : CallOkT 95 := fun _ _ => by kernel_rfl

/-- The variable of block M holds a set. -/
def StM (M a : Nat) (w : World) : Prop := w.heap[M]? = some (.cells #[.int .u32 (a : Int)] 113 (0, 0))

/-- From w to w' only new blocks and block M have been written. -/
def LrM (M : Nat) (w w' : World) : Prop := Lr M w w' (.int .u32 0) (.int .u32 0)

theorem LrM.below {M : Nat} {w w' : World} (h : LrM M w w') (hM : M < w.heap.size) : Below M w w' :=
  ⟨h.1.1, h.1.2.1, h.1.2.2.1, h.1.2.2.2, fun k hk => h.2.1 k (by omega) (by omega) (by intro e; cases e)⟩

set_option maxHeartbeats 1000000 in
theorem visitFr (M i a : Nat) (c : UInt8) (ha : a < 67108864) (hi : i < 26) (hc : c.toNat = 97 + i) (w : World) (h : StM M a w) :
    Calls Tryd.prog 95 #[.string ⟨#[c]⟩, .pointer (some ⟨M, 0, none⟩)] w fun e w' => (∃ r, e = .returned r) ∧ StM M (a ||| 2 ^ i) w' ∧ LrM M w w' := by
  have hM := lt_of_block h
  have y : w.cell? ⟨M, 0, none⟩ = some (.int .u32 (a : Int)) := by rw [cell_of_block h]; rfl
  have z : w.frozen? ⟨M, 0, none⟩ = false := frozen_of_block h
  have HST := hid (show StM M (a ||| 2 ^ i) (w.setCell ⟨M, 0, none⟩ (.int .u32 ((a ||| 2 ^ i : Nat) : Int))) from heap_setCell_at h _)
  have HLR := hid (show LrM M w (w.setCell ⟨M, 0, none⟩ (.int .u32 ((a ||| 2 ^ i : Nat) : Int))) from ⟨⟨rfl, rfl, rfl, by rw [size_setCell]; exact Nat.le_refl _⟩, fun k _ hk _ => Below.heap_setCell _ _ _ _ hk, .inl rfl⟩)
  clear h
  have HC := hid (setWith_any a i c ha hi hc w)
  clear ha hi hc
  generalize a ||| 2 ^ i = ac at *
  go_enter Tryd.func95, Tryd.ntmps95
  go_wp2_with fail
  refine HC.out.mono ?_
  rintro e w1 ⟨rfl, rfl⟩
  go_wp2_with fail
  first | go_ret | go_end0
  exact ⟨⟨_, rfl⟩, HST.out, HLR.out⟩

def EfC (M : Nat) (t : Tm) : Prop := ∀ (a b d : Nat) (v : Value) (fp : List Nat) (w : World), a < 67108864 → b < 67108864 → StM M a w → shpM d t = true → t.At w v fp → (∀ x ∈ fp, x < M) → t.sz ≤ 1048576 →
  Calls Tryd.prog 94 #[v, .int .u32 (b : Int), .func (.func 95) #[] #[.pointer (some ⟨M, 0, none⟩)]] w fun e w' => (∃ r, e = .returned r) ∧ StM M (frN b a t) w' ∧ LrM M w w'

theorem StM.below {M a : Nat} {w w' : World} (h : StM M a w) (hb : Below w.heap.size w w') : StM M a w' := blk h hb

theorem LrM.of {M : Nat} {w w' : World} (h : Below w.heap.size w w') : LrM M w w' := Lr.of_below h _

theorem LrM.trans {M : Nat} {x y z : World} (h : LrM M x y) (k : LrM M y z) : LrM M x z := Lr.trans h k

theorem LrM.heap {M : Nat} {w w' : World} (h : LrM M w w') {k : Nat} {o : Obj} (hk : w.heap[k]? = some o) (hM : k ≠ M) : w'.heap[k]? = some o := Lr.heap h hk hM (by intro e; cases e)

set_option maxRecDepth 100000 in
set_option maxHeartbeats 4000000 in
theorem eachFree_of (M : Nat) (k : Int) (nm : ByteArray) (num : Int) (ty fr : Ty) (lb : Int) (ts : List Tm) (ih : ∀ t ∈ ts, EfC M t) : EfC M (.mk k nm num ty fr lb ts) := by
  intro acc bnd d v fp w hacc hbnd hL hsh hat hlt hsz
  have HIH := hid ih
  clear ih
  have hMw : M < w.heap.size := lt_of_block hL
  obtain ⟨d', hkids, hnm0⟩ := shpM_parts hsh
  obtain ⟨k1, n1, a1, c1, k2, n2, a2, c2, a3, c3, f1, f2, f3, rfl, hnm, ht1, ht2, rfl, hs⟩ := hat.parts
  obtain ⟨aa, cap, hss, hc, hm, hget⟩ := hs.open
  cases hss
  have HS3 := hid (show ∀ x ∈ f3, x < M from fun x hx => hlt x (by simp [hx]))
  have hblk : ∀ b o, a3 = some ⟨b, o, none⟩ → 0 < ts.length → b ∈ f3 := fun b o e hp => by
    rcases hs with ⟨h0, _⟩ | ⟨b', o', cap', f, e', _, _, _, _, rfl⟩
    · rw [h0] at hp; simp at hp
    · rw [e] at e'
      cases e'
      simp
  have HBK := hid hblk
  have HG := hid hget
  have HKD := hid hkids
  have HS := hid (show ts.length + szML ts ≤ 1048576 by simp only [Tm.sz] at hsz; omega)
  have HACC := hid hacc
  have HBND := hid hbnd
  have hfc : CallOkT 95 := callOk_fr
  unfold CallOkT at hfc
  have HMW := hid hMw
  clear hget hat ht1 ht2 hsz hs hsh hkids hacc hbnd hblk hlt hnm
  by_cases hk5 : k = 5
  · subst hk5
    obtain ⟨c, rfl, hc, hi⟩ := isNm_parts (hnm0 (.inr rfl))
    generalize hix : ixN ⟨#[c]⟩ = ix at *
    have HFR := hid (show frN bnd acc (.mk 5 ⟨#[c]⟩ num ty fr lb ts) = frL (bnd ||| 2 ^ ix) acc ts by rw [frN, hix]; simp)
    have HB1 := hid (fr_orlt HBND.out hi)
    have HA1 := hid HACC.out
    have HC := hid (fun w' => setWith_any bnd ix c HBND.out hi hc w')
    clear hix hnm0 hc hi
    generalize hbb : bnd ||| 2 ^ ix = bn at *
    clear hbb
    have HB0 := hid (show Below w.heap.size w (w.alloc (Obj.cells #[.int .i64 5, .string ⟨#[c]⟩, .int .i64 num, .int .i64 k1, .slice a1 n1 c1, .int .i64 k2, .slice a2 n2 c2, .int .i64 lb, .slice a3 ts.length c3] 35)) from (Below.refl _ _).alloc (Nat.le_refl _) _)
    have HL0 := hid (hL.below HB0.out)
    have HN0 := hid (alloc_new w (Obj.cells #[.int .i64 5, .string ⟨#[c]⟩, .int .i64 num, .int .i64 k1, .slice a1 n1 c1, .int .i64 k2, .slice a2 n2 c2, .int .i64 lb, .slice a3 ts.length c3] 35))
    clear hL
    obtain ⟨x0, x1, x2, x3, x4, x5, x6, x7, x8⟩ := box9 (Below.refl ((w.alloc (Obj.cells #[.int .i64 5, .string ⟨#[c]⟩, .int .i64 num, .int .i64 k1, .slice a1 n1 c1, .int .i64 k2, .slice a2 n2 c2, .int .i64 lb, .slice a3 ts.length c3] 35))).heap.size (w.alloc (Obj.cells #[.int .i64 5, .string ⟨#[c]⟩, .int .i64 num, .int .i64 k1, .slice a1 n1 c1, .int .i64 k2, .slice a2 n2 c2, .int .i64 lb, .slice a3 ts.length c3] 35)))
    go_enter Tryd.func94, Tryd.ntmps94
    go_wp2_with fail
    refine (HC.out _).mono ?_
    rintro e w1 ⟨rfl, rfl⟩
    go_wp2_with fail
    go_loopw [34] (fun i wr => ∃ (j : Nat), j ≤ ts.length ∧ i = .int .i64 j ∧ StM M (frL bn acc (ts.take j)) wr ∧ LrM M (w.alloc (Obj.cells #[.int .i64 5, .string ⟨#[c]⟩, .int .i64 num, .int .i64 k1, .slice a1 n1 c1, .int .i64 k2, .slice a2 n2 c2, .int .i64 lb, .slice a3 ts.length c3] 35)) wr) (fun i _ => ts.length - (intOf i).toNat)
    case atStart => exact ⟨0, Nat.zero_le _, rfl, by simpa [frL] using HL0.out, LrM.of (Below.refl _ _)⟩
    case round =>
      obtain ⟨j, hj, rfl, hL4, hr4⟩ := hrel
      have hbl := hr4.below (by have := HMW.out; simp; omega)
      have HL4 := hid hL4
      have HR4 := hid hr4
      have HBL := hid hbl
      clear hL4 hr4 hbl
      by_cases hlk : j < ts.length
      · obtain ⟨b, o, q0, q1, q2, q3, q4, q5, q6, q7, q8, q9, q10, q11, q12, q13, q14, g1, hab, hblt, e0, e1, e2, e3, e4, e5, e6, e7, e8, hat, hf⟩ := HG.out j hlk
        have hbM : b < M := HS3.out b (HBK.out b o hab (by omega))
        subst hab
        have hgM : ∀ x ∈ g1, x < M := fun x hx => HS3.out x (hf x hx)
        have hat' : Tm.At wr ts[j] _ g1 := (hat.below HB0.out).congr fun x hx o' => HBL.out.cell (p := ⟨x, o', none⟩) (hgM x hx)
        replace e0 := (HBL.out.cell (p := ⟨b, o + j * 9, none⟩) hbM).trans (cell_keep e0 HB0.out)
        replace e1 := (HBL.out.cell (p := ⟨b, o + j * 9 + 1, none⟩) hbM).trans (cell_keep e1 HB0.out)
        replace e2 := (HBL.out.cell (p := ⟨b, o + j * 9 + 2, none⟩) hbM).trans (cell_keep e2 HB0.out)
        replace e3 := (HBL.out.cell (p := ⟨b, o + j * 9 + 3, none⟩) hbM).trans (cell_keep e3 HB0.out)
        replace e4 := (HBL.out.cell (p := ⟨b, o + j * 9 + 4, none⟩) hbM).trans (cell_keep e4 HB0.out)
        replace e5 := (HBL.out.cell (p := ⟨b, o + j * 9 + 5, none⟩) hbM).trans (cell_keep e5 HB0.out)
        replace e6 := (HBL.out.cell (p := ⟨b, o + j * 9 + 6, none⟩) hbM).trans (cell_keep e6 HB0.out)
        replace e7 := (HBL.out.cell (p := ⟨b, o + j * 9 + 7, none⟩) hbM).trans (cell_keep e7 HB0.out)
        replace e8 := (HBL.out.cell (p := ⟨b, o + j * 9 + 8, none⟩) hbM).trans (cell_keep e8 HB0.out)
        have HTK := hid (frL_take ts bn acc j hlk)
        have hszj : ts[j].sz ≤ 1048576 := by have := HS.out; have := sz_mem (List.getElem_mem hlk); omega
        have hkb : ∀ oo : Obj, Below wr.heap.size wr (wr.alloc oo) := fun _ => (Below.refl _ _).alloc (Nat.le_refl _) _
        have HCALL := hid (fun (oo : Obj) => HIH.out _ (List.getElem_mem hlk) (frL bn acc (ts.take j)) bn d' _ g1 (wr.alloc oo) (frL_take_lt HKD.out HB1.out HA1.out j) HB1.out (HL4.out.below (hkb oo)) (HKD.out _ (List.getElem_mem hlk)) (hat'.below (hkb oo)) hgM hszj)
        clear hat hf hgM hszj hat'
        go_wp2_with fail
        refine (HCALL.out _).mono ?_
        rintro e w4 ⟨⟨r4, rfl⟩, hL5, hr5⟩
        have HL5 := hid hL5
        have HR5 := hid ((HR4.out.trans (LrM.of (hkb _))).trans hr5)
        clear hL5 hr5 e0 e1 e2 e3 e4 e5 e6 e7 e8
        go_wp2_with fail
        go_roundw
        case rel => exact ⟨j + 1, by omega, by go_num, by rw [HTK.out]; exact HL5.out, HR5.out⟩
        case measure => simp [intOf]; omega
      · have HZ := hid (show ts.take j = ts from List.take_of_length_le (by omega))
        go_wp2_with fail
        first | go_ret | go_end0
        refine ⟨⟨_, rfl⟩, ?_, (LrM.of HB0.out).trans HR4.out⟩
        have := HL4.out
        rw [HZ.out] at this
        rw [HFR.out]
        exact this
  by_cases hk1 : k = 1
  · subst hk1
    obtain ⟨c, rfl, hc, hi⟩ := isNm_parts (hnm0 (.inl rfl))
    generalize hix : ixN ⟨#[c]⟩ = ix at *
    have HB1 := hid HBND.out
    have HH := hid (fun w' => setHas_any bnd ix c HBND.out hi hc w')
    have HVIS := hid (fun w' h => visitFr M ix acc c HACC.out hi hc w' h)
    have HOR := hid (fr_orlt HACC.out hi)
    have HFR0 := hid (show frN bnd acc (.mk 1 ⟨#[c]⟩ num ty fr lb ts) = frL bnd (if bnd.testBit ix = false then acc ||| 2 ^ ix else acc) ts by rw [frN, hix]; simp)
    clear hix hnm0 hc hi
    cases hbt : bnd.testBit ix
    · have HFR := hid (show frN bnd acc (.mk 1 ⟨#[c]⟩ num ty fr lb ts) = frL bnd (acc ||| 2 ^ ix) ts by rw [HFR0.out, if_pos hbt])
      have HA1 := hid HOR.out
      have HBT := hid hbt
      clear hbt HFR0
      generalize hbb : acc ||| 2 ^ ix = ac at *
      clear hbb
      have HB0 := hid (show Below w.heap.size w (w.alloc (Obj.cells #[.int .i64 1, .string ⟨#[c]⟩, .int .i64 num, .int .i64 k1, .slice a1 n1 c1, .int .i64 k2, .slice a2 n2 c2, .int .i64 lb, .slice a3 ts.length c3] 35)) from (Below.refl _ _).alloc (Nat.le_refl _) _)
      have HL0 := hid (hL.below HB0.out)
      have HN0 := hid (alloc_new w (Obj.cells #[.int .i64 1, .string ⟨#[c]⟩, .int .i64 num, .int .i64 k1, .slice a1 n1 c1, .int .i64 k2, .slice a2 n2 c2, .int .i64 lb, .slice a3 ts.length c3] 35))
      clear hL
      obtain ⟨x0, x1, x2, x3, x4, x5, x6, x7, x8⟩ := box9 (Below.refl ((w.alloc (Obj.cells #[.int .i64 1, .string ⟨#[c]⟩, .int .i64 num, .int .i64 k1, .slice a1 n1 c1, .int .i64 k2, .slice a2 n2 c2, .int .i64 lb, .slice a3 ts.length c3] 35))).heap.size (w.alloc (Obj.cells #[.int .i64 1, .string ⟨#[c]⟩, .int .i64 num, .int .i64 k1, .slice a1 n1 c1, .int .i64 k2, .slice a2 n2 c2, .int .i64 lb, .slice a3 ts.length c3] 35)))
      go_enter Tryd.func94, Tryd.ntmps94
      go_wp2_with fail
      refine (HH.out _).mono ?_
      rw [HBT.out]
      rintro e w0 ⟨rfl, rfl⟩
      go_wp2_with fail
      refine (HVIS.out _ HL0.out).mono ?_
      rintro e w2 ⟨⟨r2, rfl⟩, hL2, hr2⟩
      have HL2 := hid hL2
      have HR2 := hid hr2
      have hbx := hr2.heap HN0.out (by have := HMW.out; omega)
      clear hL2 hr2 x0 x1 x2 x3 x4 x5 x6 x7 x8
      obtain ⟨x0, x1, x2, x3, x4, x5, x6, x7, x8⟩ := cells9 hbx
      clear hbx
      go_wp2_with fail
      go_loopw [34] (fun i wr => ∃ (j : Nat), j ≤ ts.length ∧ i = .int .i64 j ∧ StM M (frL bnd ac (ts.take j)) wr ∧ LrM M (w.alloc (Obj.cells #[.int .i64 1, .string ⟨#[c]⟩, .int .i64 num, .int .i64 k1, .slice a1 n1 c1, .int .i64 k2, .slice a2 n2 c2, .int .i64 lb, .slice a3 ts.length c3] 35)) wr) (fun i _ => ts.length - (intOf i).toNat)
      case atStart => exact ⟨0, Nat.zero_le _, rfl, by simpa [frL] using HL2.out, HR2.out⟩
      case round =>
        obtain ⟨j, hj, rfl, hL4, hr4⟩ := hrel
        have hbl := hr4.below (by have := HMW.out; simp; omega)
        have HL4 := hid hL4
        have HR4 := hid hr4
        have HBL := hid hbl
        clear hL4 hr4 hbl
        by_cases hlk : j < ts.length
        · obtain ⟨b, o, q0, q1, q2, q3, q4, q5, q6, q7, q8, q9, q10, q11, q12, q13, q14, g1, hab, hblt, e0, e1, e2, e3, e4, e5, e6, e7, e8, hat, hf⟩ := HG.out j hlk
          have hbM : b < M := HS3.out b (HBK.out b o hab (by omega))
          subst hab
          have hgM : ∀ x ∈ g1, x < M := fun x hx => HS3.out x (hf x hx)
          have hat' : Tm.At wr ts[j] _ g1 := (hat.below HB0.out).congr fun x hx o' => HBL.out.cell (p := ⟨x, o', none⟩) (hgM x hx)
          replace e0 := (HBL.out.cell (p := ⟨b, o + j * 9, none⟩) hbM).trans (cell_keep e0 HB0.out)
          replace e1 := (HBL.out.cell (p := ⟨b, o + j * 9 + 1, none⟩) hbM).trans (cell_keep e1 HB0.out)
          replace e2 := (HBL.out.cell (p := ⟨b, o + j * 9 + 2, none⟩) hbM).trans (cell_keep e2 HB0.out)
          replace e3 := (HBL.out.cell (p := ⟨b, o + j * 9 + 3, none⟩) hbM).trans (cell_keep e3 HB0.out)
          replace e4 := (HBL.out.cell (p := ⟨b, o + j * 9 + 4, none⟩) hbM).trans (cell_keep e4 HB0.out)
          replace e5 := (HBL.out.cell (p := ⟨b, o + j * 9 + 5, none⟩) hbM).trans (cell_keep e5 HB0.out)
          replace e6 := (HBL.out.cell (p := ⟨b, o + j * 9 + 6, none⟩) hbM).trans (cell_keep e6 HB0.out)
          replace e7 := (HBL.out.cell (p := ⟨b, o + j * 9 + 7, none⟩) hbM).trans (cell_keep e7 HB0.out)
          replace e8 := (HBL.out.cell (p := ⟨b, o + j * 9 + 8, none⟩) hbM).trans (cell_keep e8 HB0.out)
          have HTK := hid (frL_take ts bnd ac j hlk)
          have hszj : ts[j].sz ≤ 1048576 := by have := HS.out; have := sz_mem (List.getElem_mem hlk); omega
          have hkb : ∀ oo : Obj, Below wr.heap.size wr (wr.alloc oo) := fun _ => (Below.refl _ _).alloc (Nat.le_refl _) _
          have HCALL := hid (fun (oo : Obj) => HIH.out _ (List.getElem_mem hlk) (frL bnd ac (ts.take j)) bnd d' _ g1 (wr.alloc oo) (frL_take_lt HKD.out HB1.out HA1.out j) HB1.out (HL4.out.below (hkb oo)) (HKD.out _ (List.getElem_mem hlk)) (hat'.below (hkb oo)) hgM hszj)
          clear hat hf hgM hszj hat'
          go_wp2_with fail
          refine (HCALL.out _).mono ?_
          rintro e w4 ⟨⟨r4, rfl⟩, hL5, hr5⟩
          have HL5 := hid hL5
          have HR5 := hid ((HR4.out.trans (LrM.of (hkb _))).trans hr5)
          clear hL5 hr5 e0 e1 e2 e3 e4 e5 e6 e7 e8
          go_wp2_with fail
          go_roundw
          case rel => exact ⟨j + 1, by omega, by go_num, by rw [HTK.out]; exact HL5.out, HR5.out⟩
          case measure => simp [intOf]; omega
        · have HZ := hid (show ts.take j = ts from List.take_of_length_le (by omega))
          go_wp2_with fail
          first | go_ret | go_end0
          refine ⟨⟨_, rfl⟩, ?_, (LrM.of HB0.out).trans HR4.out⟩
          have := HL4.out
          rw [HZ.out] at this
          rw [HFR.out]
          exact this
    · have HFR := hid (show frN bnd acc (.mk 1 ⟨#[c]⟩ num ty fr lb ts) = frL bnd acc ts by rw [HFR0.out, if_neg (by rw [hbt]; simp)])
      have HA1 := hid HACC.out
      have HBT := hid hbt
      clear hbt HFR0
      have HB0 := hid (show Below w.heap.size w (w.alloc (Obj.cells #[.int .i64 1, .string ⟨#[c]⟩, .int .i64 num, .int .i64 k1, .slice a1 n1 c1, .int .i64 k2, .slice a2 n2 c2, .int .i64 lb, .slice a3 ts.length c3] 35)) from (Below.refl _ _).alloc (Nat.le_refl _) _)
      have HL0 := hid (hL.below HB0.out)
      have HN0 := hid (alloc_new w (Obj.cells #[.int .i64 1, .string ⟨#[c]⟩, .int .i64 num, .int .i64 k1, .slice a1 n1 c1, .int .i64 k2, .slice a2 n2 c2, .int .i64 lb, .slice a3 ts.length c3] 35))
      clear hL
      obtain ⟨x0, x1, x2, x3, x4, x5, x6, x7, x8⟩ := box9 (Below.refl ((w.alloc (Obj.cells #[.int .i64 1, .string ⟨#[c]⟩, .int .i64 num, .int .i64 k1, .slice a1 n1 c1, .int .i64 k2, .slice a2 n2 c2, .int .i64 lb, .slice a3 ts.length c3] 35))).heap.size (w.alloc (Obj.cells #[.int .i64 1, .string ⟨#[c]⟩, .int .i64 num, .int .i64 k1, .slice a1 n1 c1, .int .i64 k2, .slice a2 n2 c2, .int .i64 lb, .slice a3 ts.length c3] 35)))
      go_enter Tryd.func94, Tryd.ntmps94
      go_wp2_with fail
      refine (HH.out _).mono ?_
      rw [HBT.out]
      rintro e w0 ⟨rfl, rfl⟩
      go_wp2_with fail
      go_loopw [34] (fun i wr => ∃ (j : Nat), j ≤ ts.length ∧ i = .int .i64 j ∧ StM M (frL bnd acc (ts.take j)) wr ∧ LrM M (w.alloc (Obj.cells #[.int .i64 1, .string ⟨#[c]⟩, .int .i64 num, .int .i64 k1, .slice a1 n1 c1, .int .i64 k2, .slice a2 n2 c2, .int .i64 lb, .slice a3 ts.length c3] 35)) wr) (fun i _ => ts.length - (intOf i).toNat)
      case atStart => exact ⟨0, Nat.zero_le _, rfl, by simpa [frL] using HL0.out, LrM.of (Below.refl _ _)⟩
      case round =>
        obtain ⟨j, hj, rfl, hL4, hr4⟩ := hrel
        have hbl := hr4.below (by have := HMW.out; simp; omega)
        have HL4 := hid hL4
        have HR4 := hid hr4
        have HBL := hid hbl
        clear hL4 hr4 hbl
        by_cases hlk : j < ts.length
        · obtain ⟨b, o, q0, q1, q2, q3, q4, q5, q6, q7, q8, q9, q10, q11, q12, q13, q14, g1, hab, hblt, e0, e1, e2, e3, e4, e5, e6, e7, e8, hat, hf⟩ := HG.out j hlk
          have hbM : b < M := HS3.out b (HBK.out b o hab (by omega))
          subst hab
          have hgM : ∀ x ∈ g1, x < M := fun x hx => HS3.out x (hf x hx)
          have hat' : Tm.At wr ts[j] _ g1 := (hat.below HB0.out).congr fun x hx o' => HBL.out.cell (p := ⟨x, o', none⟩) (hgM x hx)
          replace e0 := (HBL.out.cell (p := ⟨b, o + j * 9, none⟩) hbM).trans (cell_keep e0 HB0.out)
          replace e1 := (HBL.out.cell (p := ⟨b, o + j * 9 + 1, none⟩) hbM).trans (cell_keep e1 HB0.out)
          replace e2 := (HBL.out.cell (p := ⟨b, o + j * 9 + 2, none⟩) hbM).trans (cell_keep e2 HB0.out)
          replace e3 := (HBL.out.cell (p := ⟨b, o + j * 9 + 3, none⟩) hbM).trans (cell_keep e3 HB0.out)
          replace e4 := (HBL.out.cell (p := ⟨b, o + j * 9 + 4, none⟩) hbM).trans (cell_keep e4 HB0.out)
          replace e5 := (HBL.out.cell (p := ⟨b, o + j * 9 + 5, none⟩) hbM).trans (cell_keep e5 HB0.out)
          replace e6 := (HBL.out.cell (p := ⟨b, o + j * 9 + 6, none⟩) hbM).trans (cell_keep e6 HB0.out)
          replace e7 := (HBL.out.cell (p := ⟨b, o + j * 9 + 7, none⟩) hbM).trans (cell_keep e7 HB0.out)
          replace e8 := (HBL.out.cell (p := ⟨b, o + j * 9 + 8, none⟩) hbM).trans (cell_keep e8 HB0.out)
          have HTK := hid (frL_take ts bnd acc j hlk)
          have hszj : ts[j].sz ≤ 1048576 := by have := HS.out; have := sz_mem (List.getElem_mem hlk); omega
          have hkb : ∀ oo : Obj, Below wr.heap.size wr (wr.alloc oo) := fun _ => (Below.refl _ _).alloc (Nat.le_refl _) _
          have HCALL := hid (fun (oo : Obj) => HIH.out _ (List.getElem_mem hlk) (frL bnd acc (ts.take j)) bnd d' _ g1 (wr.alloc oo) (frL_take_lt HKD.out HB1.out HA1.out j) HB1.out (HL4.out.below (hkb oo)) (HKD.out _ (List.getElem_mem hlk)) (hat'.below (hkb oo)) hgM hszj)
          clear hat hf hgM hszj hat'
          go_wp2_with fail
          refine (HCALL.out _).mono ?_
          rintro e w4 ⟨⟨r4, rfl⟩, hL5, hr5⟩
          have HL5 := hid hL5
          have HR5 := hid ((HR4.out.trans (LrM.of (hkb _))).trans hr5)
          clear hL5 hr5 e0 e1 e2 e3 e4 e5 e6 e7 e8
          go_wp2_with fail
          go_roundw
          case rel => exact ⟨j + 1, by omega, by go_num, by rw [HTK.out]; exact HL5.out, HR5.out⟩
          case measure => simp [intOf]; omega
        · have HZ := hid (show ts.take j = ts from List.take_of_length_le (by omega))
          go_wp2_with fail
          first | go_ret | go_end0
          refine ⟨⟨_, rfl⟩, ?_, (LrM.of HB0.out).trans HR4.out⟩
          have := HL4.out
          rw [HZ.out] at this
          rw [HFR.out]
          exact this
  · have HFR := hid (show frN bnd acc (.mk k nm num ty fr lb ts) = frL bnd acc ts by rw [frN, if_neg hk5, if_neg (fun h => hk1 h.1)])
    have HB1 := hid HBND.out
    have HA1 := hid HACC.out
    have h1 : (k == 1) = false := by simpa using hk1
    have h5 : (k == 5) = false := by simpa using hk5
    clear hnm0
    have HB0 := hid (show Below w.heap.size w (w.alloc (Obj.cells #[.int .i64 k, .string nm, .int .i64 num, .int .i64 k1, .slice a1 n1 c1, .int .i64 k2, .slice a2 n2 c2, .int .i64 lb, .slice a3 ts.length c3] 35)) from (Below.refl _ _).alloc (Nat.le_refl _) _)
    have HL0 := hid (hL.below HB0.out)
    have HN0 := hid (alloc_new w (Obj.cells #[.int .i64 k, .string nm, .int .i64 num, .int .i64 k1, .slice a1 n1 c1, .int .i64 k2, .slice a2 n2 c2, .int .i64 lb, .slice a3 ts.length c3] 35))
    clear hL
    obtain ⟨x0, x1, x2, x3, x4, x5, x6, x7, x8⟩ := box9 (Below.refl ((w.alloc (Obj.cells #[.int .i64 k, .string nm, .int .i64 num, .int .i64 k1, .slice a1 n1 c1, .int .i64 k2, .slice a2 n2 c2, .int .i64 lb, .slice a3 ts.length c3] 35))).heap.size (w.alloc (Obj.cells #[.int .i64 k, .string nm, .int .i64 num, .int .i64 k1, .slice a1 n1 c1, .int .i64 k2, .slice a2 n2 c2, .int .i64 lb, .slice a3 ts.length c3] 35)))
    go_enter Tryd.func94, Tryd.ntmps94
    go_wp2_with fail
    go_loopw [34] (fun i wr => ∃ (j : Nat), j ≤ ts.length ∧ i = .int .i64 j ∧ StM M (frL bnd acc (ts.take j)) wr ∧ LrM M (w.alloc (Obj.cells #[.int .i64 k, .string nm, .int .i64 num, .int .i64 k1, .slice a1 n1 c1, .int .i64 k2, .slice a2 n2 c2, .int .i64 lb, .slice a3 ts.length c3] 35)) wr) (fun i _ => ts.length - (intOf i).toNat)
    case atStart => exact ⟨0, Nat.zero_le _, rfl, by simpa [frL] using HL0.out, LrM.of (Below.refl _ _)⟩
    case round =>
      obtain ⟨j, hj, rfl, hL4, hr4⟩ := hrel
      have hbl := hr4.below (by have := HMW.out; simp; omega)
      have HL4 := hid hL4
      have HR4 := hid hr4
      have HBL := hid hbl
      clear hL4 hr4 hbl
      by_cases hlk : j < ts.length
      · obtain ⟨b, o, q0, q1, q2, q3, q4, q5, q6, q7, q8, q9, q10, q11, q12, q13, q14, g1, hab, hblt, e0, e1, e2, e3, e4, e5, e6, e7, e8, hat, hf⟩ := HG.out j hlk
        have hbM : b < M := HS3.out b (HBK.out b o hab (by omega))
        subst hab
        have hgM : ∀ x ∈ g1, x < M := fun x hx => HS3.out x (hf x hx)
        have hat' : Tm.At wr ts[j] _ g1 := (hat.below HB0.out).congr fun x hx o' => HBL.out.cell (p := ⟨x, o', none⟩) (hgM x hx)
        replace e0 := (HBL.out.cell (p := ⟨b, o + j * 9, none⟩) hbM).trans (cell_keep e0 HB0.out)
        replace e1 := (HBL.out.cell (p := ⟨b, o + j * 9 + 1, none⟩) hbM).trans (cell_keep e1 HB0.out)
        replace e2 := (HBL.out.cell (p := ⟨b, o + j * 9 + 2, none⟩) hbM).trans (cell_keep e2 HB0.out)
        replace e3 := (HBL.out.cell (p := ⟨b, o + j * 9 + 3, none⟩) hbM).trans (cell_keep e3 HB0.out)
        replace e4 := (HBL.out.cell (p := ⟨b, o + j * 9 + 4, none⟩) hbM).trans (cell_keep e4 HB0.out)
        replace e5 := (HBL.out.cell (p := ⟨b, o + j * 9 + 5, none⟩) hbM).trans (cell_keep e5 HB0.out)
        replace e6 := (HBL.out.cell (p := ⟨b, o + j * 9 + 6, none⟩) hbM).trans (cell_keep e6 HB0.out)
        replace e7 := (HBL.out.cell (p := ⟨b, o + j * 9 + 7, none⟩) hbM).trans (cell_keep e7 HB0.out)
        replace e8 := (HBL.out.cell (p := ⟨b, o + j * 9 + 8, none⟩) hbM).trans (cell_keep e8 HB0.out)
        have HTK := hid (frL_take ts bnd acc j hlk)
        have hszj : ts[j].sz ≤ 1048576 := by have := HS.out; have := sz_mem (List.getElem_mem hlk); omega
        have hkb : ∀ oo : Obj, Below wr.heap.size wr (wr.alloc oo) := fun _ => (Below.refl _ _).alloc (Nat.le_refl _) _
        have HCALL := hid (fun (oo : Obj) => HIH.out _ (List.getElem_mem hlk) (frL bnd acc (ts.take j)) bnd d' _ g1 (wr.alloc oo) (frL_take_lt HKD.out HB1.out HA1.out j) HB1.out (HL4.out.below (hkb oo)) (HKD.out _ (List.getElem_mem hlk)) (hat'.below (hkb oo)) hgM hszj)
        clear hat hf hgM hszj hat'
        go_wp2_with fail
        refine (HCALL.out _).mono ?_
        rintro e w4 ⟨⟨r4, rfl⟩, hL5, hr5⟩
        have HL5 := hid hL5
        have HR5 := hid ((HR4.out.trans (LrM.of (hkb _))).trans hr5)
        clear hL5 hr5 e0 e1 e2 e3 e4 e5 e6 e7 e8
        go_wp2_with fail
        go_roundw
        case rel => exact ⟨j + 1, by omega, by go_num, by rw [HTK.out]; exact HL5.out, HR5.out⟩
        case measure => simp [intOf]; omega
      · have HZ := hid (show ts.take j = ts from List.take_of_length_le (by omega))
        go_wp2_with fail
        first | go_ret | go_end0
        refine ⟨⟨_, rfl⟩, ?_, (LrM.of HB0.out).trans HR4.out⟩
        have := HL4.out
        rw [HZ.out] at this
        rw [HFR.out]
        exact this

theorem eachFree_any (M : Nat) : ∀ t : Tm, EfC M t := Tm.ind (eachFree_of M)
end Go.Proofs.YtffmpjcjmffdeaaDoor

namespace Go.Proofs.YtffmpjcjmffdeaaDoor
open Go.RowKit

set_option maxRecDepth 100000 in
set_option maxHeartbeats 4000000 in
theorem implFreeNames (t : Tm) (v : Value) (fp : List Nat) (w : World) (hsz : t.sz ≤ 1048576) (hF : Forms w) (hat : t.At w v fp) :
    Calls Tryd.prog 39 #[v] w fun e w' => e = .returned (.string (freeS t)) ∧ Below w.heap.size w w' := by
  have hlt := hat.lt
  obtain ⟨k, nm, num, k1, n1, a1, c1, k2, n2, a2, c2, lb, n3, a3, c3, rfl⟩ := hat.agg
  have hb0 : Below w.heap.size w (w.alloc (Obj.cells #[.int .i64 k, .string nm, .int .i64 num, .int .i64 k1, .slice a1 n1 c1, .int .i64 k2, .slice a2 n2 c2, .int .i64 lb, .slice a3 n3 c3] 35)) := (Below.refl _ _).alloc (Nat.le_refl _) _
  have hat0 := hat.below hb0
  have HVD := hid (implTermValid t _ _ _ (hF.below hb0) hat0)
  have HT := hid (show freeS t = if vldM t then strN (frN 0 0 t) else ⟨#[]⟩ from rfl)
  have HSH := hid (fun h : vldM t = true => vldM_shp h)
  have HLT := hid hlt
  have HF := hid hF
  clear hlt hF
  generalize vldM t = r at *
  go_enter Tryd.func39, Tryd.ntmps39
  go_wp2_with fail
  refine HVD.out.mono ?_
  rintro e w1 ⟨rfl, hb1⟩
  obtain ⟨z0, z1, z2, z3, z4, z5, z6, z7, z8⟩ := box9 hb1
  have b1 := below_trans hb0 hb1
  have hat2 := hat0.below hb1
  have hal : Below w1.heap.size w1 (w1.alloc (Obj.cells #[.int .u32 0] 113)) := (Below.refl _ _).alloc (Nat.le_refl _) _
  clear hat0 hat
  cases r
  · go_wp2_with fail
    go_ret
    exact ⟨ret_s (by rw [HT.out]; rfl), b1⟩
  · have HSHP := hid (HSH.out rfl)
    replace z0 := cell_keep z0 hal
    replace z1 := cell_keep z1 hal
    replace z2 := cell_keep z2 hal
    replace z3 := cell_keep z3 hal
    replace z4 := cell_keep z4 hal
    replace z5 := cell_keep z5 hal
    replace z6 := cell_keep z6 hal
    replace z7 := cell_keep z7 hal
    replace z8 := cell_keep z8 hal
    have hs1 : (w1.alloc (Obj.cells #[.int .u32 0] 113)).heap.size = w1.heap.size + 1 := by simp
    have HL := hid (show StM w1.heap.size 0 (w1.alloc (Obj.cells #[.int .u32 0] 113)) from alloc_new _ _)
    have HLT1 := hid (show ∀ x ∈ fp, x < w1.heap.size from fun x hx => Nat.lt_of_lt_of_le (HLT.out x hx) b1.size)
    have HC := hid (eachFree_any w1.heap.size t 0 0 12 _ fp (w1.alloc (Obj.cells #[.int .u32 0] 113)) (by omega) (by omega) HL.out HSHP.out (hat2.below hal) HLT1.out hsz)
    have HB1 := hid b1
    have HAL := hid hal
    have HS1 := hid hs1
    have HLTN := hid (frN_lt t 12 0 0 HSHP.out (by omega) (by omega))
    clear hat2 b1 hal hs1
    go_wp2_with fail
    refine HC.out.mono ?_
    rintro e w3 ⟨⟨r3, rfl⟩, hL3, hr3⟩
    have hc3 : w3.cell? ⟨w1.heap.size, 0, none⟩ = some (.int .u32 (frN 0 0 t : Int)) := by rw [cell_of_block hL3]; rfl
    have HB3 := hid (hr3.below (by have := HS1.out; omega))
    have HTX := hid (setText_any (frN 0 0 t) HLTN.out w3)
    clear hL3 hr3 z0 z1 z2 z3 z4 z5 z6 z7 z8
    go_wp2_with fail
    refine HTX.out.mono ?_
    rintro e w4 ⟨rfl, hb4⟩
    have HB4 := hid (hb4.mono (by have := HB3.out.size; have := HS1.out; omega : w1.heap.size ≤ w3.heap.size))
    clear hb4 hc3
    go_wp2_with fail
    go_ret
    exact ⟨ret_s (by rw [HT.out]; rfl), HB1.out.trans ((HAL.out.trans (HB3.out.trans HB4.out)).mono HB1.out.size)⟩
end Go.Proofs.YtffmpjcjmffdeaaDoor

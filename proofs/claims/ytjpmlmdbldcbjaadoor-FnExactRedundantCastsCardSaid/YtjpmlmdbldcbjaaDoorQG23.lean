/- The specification's l2Subst. The program's copyTerm. The program's substitute. How large a valid term is, and one in which a name has been replaced. Values and steps of terms with casts, as plain functions. Steps of terms with casts, as plain functions; a step keeps a term well formed. How large a term with casts is, and what a step makes of it. The specification's values. The specification's steps: new nodes. -/
import Derived.Test.YtjpmlmdbldcbjaaDoorQSb0
import Derived.Test.YtjpmlmdbldcbjaaDoorQRwC
import Derived.Test.YtjpmlmdbldcbjaaDoorQG1
import Derived.Test.YtjpmlmdbldcbjaaDoorQG11
import Derived.Test.YtjpmlmdbldcbjaaDoorQPkA
import Derived.Deep.RegionHeld3
namespace Go.Proofs.YtjpmlmdbldcbjaaDoor
open Go.RowKit

section
variable (name : ByteArray) (u : Tm)

end

theorem four_out {w wr : World} {o1 o2 o3 o4 : Obj} (h : Below ((((w.alloc o1).alloc o2).alloc o3).alloc o4).heap.size ((((w.alloc o1).alloc o2).alloc o3).alloc o4) wr) :
    wr.heap[w.heap.size]? = some o1 ∧ wr.heap[w.heap.size + 1]? = some o2 ∧ wr.heap[w.heap.size + 1 + 1]? = some o3 ∧ wr.heap[w.heap.size + 1 + 1 + 1]? = some o4 := by
  obtain ⟨a, b, c⟩ := three_out (alloc1 h)
  refine ⟨a, b, c, ?_⟩
  rw [h.block _ (by simp)]
  have := alloc_new (((w.alloc o1).alloc o2).alloc o3) o4
  simpa using this

/-- The loop over the operands: what stands behind j rounds. -/
def SvI (w : World) (bv vv : Array Value) (M : Nat) (k : Int) (nm : ByteArray) (num lb : Int) (ty fr : Ty) (j1 j2 : Int) (m1 m2 d1 d2 : Nat) (p1 p2 : Option Addr) (g1 g2 : List Nat) (us : List Tm) (x8 : Value) (f : List Nat) (wr : World) : Prop :=
  (wr.heap[w.heap.size]? = some (.cells bv 34 (0, 0)) ∧ wr.heap[w.heap.size + 1]? = some (.cells vv 34 (0, 0)) ∧ wr.heap[w.heap.size + 1 + 1]? = some (Obj.cells #[.int .i64 0, .string ByteArray.empty, .int .i64 0, .int .i64 0, .slice none 0 0, .int .i64 0, .slice none 0 0, .int .i64 0, .slice none 0 0] 34) ∧ wr.heap[w.heap.size + 1 + 1 + 1]? = some (.cells #[.int .i64 k, .string nm, .int .i64 num, .int .i64 j1, .slice p1 m1 d1, .int .i64 j2, .slice p2 m2 d2, .int .i64 lb, x8] 34 (0, 0)) ∧ GrowM M us x8 f wr ∧ M ≤ wr.heap.size ∧ Below w.heap.size w wr) ∧
    ty.At wr (.agg #[.int .i64 j1, .slice p1 m1 d1]) g1 ∧ fr.At wr (.agg #[.int .i64 j2, .slice p2 m2 d2]) g2 ∧ Fresh (w.heap.size + 1 + 1 + 1 + 1) wr (g1 ++ g2) ∧ (∀ b ∈ g1 ++ g2, b < M) ∧ w.heap.size + 1 + 1 + 1 < M

theorem SvI.step {w wr : World} {bv vv : Array Value} {M : Nat} {k : Int} {nm : ByteArray} {num lb : Int} {ty fr : Ty} {j1 j2 : Int} {m1 m2 d1 d2 : Nat} {p1 p2 : Option Addr} {g1 g2 : List Nat} {w1 w3 : World} {us : List Tm} {u : Tm} {x8 : Value} {f f' : List Nat} {vs xs : List Value} {g cp n : Nat} (h : SvI w bv vv M k nm num lb ty fr j1 j2 m1 m2 d1 d2 p1 p2 g1 g2 us x8 f wr)
    (hb : Below wr.heap.size wr w1) (hat : u.At w1 (.agg vs.toArray) f') (hf : Fresh wr.heap.size w1 f') (ha1 : AtXM w1 us xs f) (hf1 : Fresh M w1 f) (hn1 : ∀ b, x8.ownBlock = some b → b ∉ f)
    (hgrow : (w1.alloc (Obj.cells vs.toArray 34)).grownBy w3 x8.ownBlock) (hown3 : w3.ownsRow M 34 9 (.slice (some ⟨g, 0, none⟩) n cp) n (xs ++ vs)) (hn : n = us.length + 1) (hat3 : x8.ownBlock = some g ∨ g = (w1.alloc (Obj.cells vs.toArray 34)).heap.size) :
    SvI w bv vv M k nm num lb ty fr j1 j2 m1 m2 d1 d2 p1 p2 g1 g2 (us ++ [u]) (.slice (some ⟨g, 0, none⟩) n cp) (f ++ f') (w3.setCell ⟨w.heap.size + 1 + 1 + 1, 8, none⟩ (.slice (some ⟨g, 0, none⟩) n cp)) := by
  obtain ⟨⟨hB, hV, hZ, hO, hG, hs, hx⟩, t1, t2, hg, hgM, hwM⟩ := h
  have hge := hG.own_geS
  have h9 : vs.length = 9 := by simpa using Tm.size9 hat
  have hG3 : GrowM M (us ++ [u]) (.slice (some ⟨g, 0, none⟩) n cp) (f ++ f') w3 := GrowM.step (w := wr) ha1 hf1 hn1 hG.block.1 hG.block.2 hs h9 hat hf ((Below.refl _ _).alloc (Nat.le_refl _) _) hgrow hown3 hn hat3
  have hs1 := hb.size
  have hw3 : Below M w1 w3 := ((Below.refl _ _).alloc (by omega) _).grown hgrow (by simp; omega) (fun b hb => (hge b hb).1)
  have hbb := (hb.mono (B' := M) (by omega)).trans hw3
  have hs3 := hbb.size
  have ab : Above (w.heap.size + 1 + 1 + 1 + 1) w3 (w3.setCell ⟨w.heap.size + 1 + 1 + 1, 8, none⟩ (.slice (some ⟨g, 0, none⟩) n cp)) := (Above.refl _ _).setCell (p := ⟨w.heap.size + 1 + 1 + 1, 8, none⟩) (Nat.lt_succ_self _) _
  refine ⟨⟨blk_ne ((hbb.block _ (by omega)).trans hB) (by simp; omega), blk_ne ((hbb.block _ (by omega)).trans hV) (by simp), blk_ne ((hbb.block _ (by omega)).trans hZ) (by simp), ?_, hG3.setCell (p := ⟨w.heap.size + 1 + 1 + 1, 8, none⟩) hwM _, by rw [size_setCell]; omega, (hx.trans (hbb.mono (by omega))).setCell (p := ⟨w.heap.size + 1 + 1 + 1, 8, none⟩) (by simp; omega) _⟩,
    (t1.belowM hbb (fun b hb => hgM b (by simp [hb]))).above ab (fun b hb => hg.ge b (by simp [hb])), (t2.belowM hbb (fun b hb => hgM b (by simp [hb]))).above ab (fun b hb => hg.ge b (by simp [hb])), (hg.belowM hbb hgM).above ab (Nat.le_refl _), hgM, hwM⟩
  rw [heap_setCell_at ((hbb.block _ (by omega)).trans hO)]
  rfl

theorem SvI.keep {w wr : World} {bv vv : Array Value} {M : Nat} {k : Int} {nm : ByteArray} {num lb : Int} {ty fr : Ty} {j1 j2 : Int} {m1 m2 d1 d2 : Nat} {p1 p2 : Option Addr} {g1 g2 : List Nat} {w1 w3 : World} {us : List Tm} {x8 : Value} {f : List Nat} {vs : List Value} (h : SvI w bv vv M k nm num lb ty fr j1 j2 m1 m2 d1 d2 p1 p2 g1 g2 us x8 f wr)
    (hb : Below wr.heap.size wr w1) (hgrow : (w1.alloc (Obj.cells vs.toArray 34)).grownBy w3 x8.ownBlock) : w3.heap[w.heap.size + 1 + 1 + 1]? = some (.cells #[.int .i64 k, .string nm, .int .i64 num, .int .i64 j1, .slice p1 m1 d1, .int .i64 j2, .slice p2 m2 d2, .int .i64 lb, x8] 34 (0, 0)) := by
  obtain ⟨⟨hB, hV, hZ, hO, hG, hs, hx⟩, t1, t2, hg, hgM, hwM⟩ := h
  have hge := hG.own_geS
  have hs1 := hb.size
  have hw3 : Below M w1 w3 := ((Below.refl _ _).alloc (by omega) _).grown hgrow (by simp; omega) (fun b hb => (hge b hb).1)
  have hbb := (hb.mono (B' := M) (by omega)).trans hw3
  exact (hbb.block _ (by omega)).trans hO

theorem SvI.done {w wr : World} {bv vv : Array Value} {M : Nat} {k : Int} {nm : ByteArray} {num lb : Int} {ty fr : Ty} {j1 j2 : Int} {m1 m2 d1 d2 : Nat} {p1 p2 : Option Addr} {g1 g2 : List Nat} {us : List Tm} {x8 : Value} {f : List Nat} (h : SvI w bv vv M k nm num lb ty fr j1 j2 m1 m2 d1 d2 p1 p2 g1 g2 us x8 f wr) (hnm : nm.size ≤ 9223372036854775807) (hm : us.length ≤ maxLen) :
    MadeM w (.mk k nm num ty fr lb us) (.returned (.agg #[.int .i64 k, .string nm, .int .i64 num, .int .i64 j1, .slice p1 m1 d1, .int .i64 j2, .slice p2 m2 d2, .int .i64 lb, x8])) (put wr (w.heap.size + 1 + 1) 0 (#[.int .i64 k, .string nm, .int .i64 num, .int .i64 j1, .slice p1 m1 d1, .int .i64 j2, .slice p2 m2 d2, .int .i64 lb, x8]).toList) := by
  obtain ⟨⟨hB, hV, hZ, hO, hG, hs, hx⟩, t1, t2, hg, hgM, hwM⟩ := h
  obtain ⟨fp, hsm, hf⟩ := hG.done hm
  have ab : Above (w.heap.size + 1 + 1 + 1) wr (put wr (w.heap.size + 1 + 1) 0 (#[.int .i64 k, .string nm, .int .i64 num, .int .i64 j1, .slice p1 m1 d1, .int .i64 j2, .slice p2 m2 d2, .int .i64 lb, x8]).toList) := (Above.refl _ _).put (Nat.lt_succ_self _)
  have q1 := t1.above ab (fun b hb => by have := hg.ge b (by simp [hb]); omega)
  have q2 := t2.above ab (fun b hb => by have := hg.ge b (by simp [hb]); omega)
  have q3 := hsm.above ab (fun b hb => by have := hf.ge b hb; omega)
  have F1 := (hg.above ab (by omega)).mono (B' := w.heap.size) (by omega)
  have F2 := (hf.above ab (by omega)).mono (B' := w.heap.size) (by omega)
  refine ⟨_, g1 ++ (g2 ++ fp), rfl, Tm.at_mk.2 ⟨_, _, _, _, _, g1, g2, fp, rfl, hnm, q1, q2, rfl, q3⟩, ?_, below_put hx (by omega)⟩
  rw [← List.append_assoc]
  refine ⟨List.nodup_append.2 ⟨F1.1, F2.1, fun a ha b hb e => ?_⟩, fun b hb => ?_⟩
  · have := hgM a ha
    have := hf.ge b hb
    omega
  · rcases List.mem_append.1 hb with hb | hb
    · exact F1.2 b hb
    · exact F2.2 b hb

end Go.Proofs.YtjpmlmdbldcbjaaDoor

namespace Go.Proofs.YtjpmlmdbldcbjaaDoor
open Go.RowKit

mutual
/-- Trees whose types are zero or well formed. -/
def okT : Tm → Prop
  | .mk _ _ _ ty fr _ ts => okTy ty ∧ okTy fr ∧ okL ts
def okL : List Tm → Prop
  | [] => True
  | t :: ts => okT t ∧ okL ts
end

theorem okL_get : ∀ {ts : List Tm} (_ : okL ts) (j : Nat) (h : j < ts.length), okT ts[j]
  | t :: ts, h, 0, _ => by simp only [okL] at h; exact h.1
  | t :: ts, h, j + 1, hj => by simp only [okL] at h; exact okL_get h.2 j (by simpa using hj)


end Go.Proofs.YtjpmlmdbldcbjaaDoor

namespace Go.Proofs.YtjpmlmdbldcbjaaDoor
open Go.RowKit


/-- What the closure's boxes hold. -/
def SsSt (name : ByteArray) (u : Tm) (M1 M2 : Nat) (vs : Array Value) (fpu : List Nat) (w : World) : Prop :=
  w.heap[M1]? = some (.cells #[.string name] 9 (0, 0)) ∧ w.heap[M2]? = some (.cells vs 34 (0, 0)) ∧ u.At w (.agg vs) fpu

theorem SsSt.below {name : ByteArray} {u : Tm} {M1 M2 S0 : Nat} {vs : Array Value} {fpu : List Nat} {w w' : World} (h : SsSt name u M1 M2 vs fpu w) (hb : Below S0 w w') (h1 : M1 < S0) (h2 : M2 < S0) (hf : ∀ b ∈ fpu, b < S0) : SsSt name u M1 M2 vs fpu w' :=
  ⟨(hb.block _ h1).trans h.1, (hb.block _ h2).trans h.2.1, h.2.2.congr fun b hm o => hb.cell (p := ⟨b, o, none⟩) (hf b hm)⟩

end Go.Proofs.YtjpmlmdbldcbjaaDoor

namespace Go.Proofs.YtjpmlmdbldcbjaaDoor
open Go.RowKit

theorem shp_cnt : ∀ (d : Nat) (t : Ty), shp d t = true → t.cnt + 2 ≤ 2 ^ (d + 1)
  | 0, _, h => by simp [shp] at h
  | d + 1, .mk k ts, h => by
    have hp : 0 < 2 ^ (d + 1) := Nat.pow_pos (by omega)
    rcases shp_cases h with ⟨rfl, _⟩ | ⟨x, y, rfl, _, hx, hy⟩
    · simp only [Ty.cnt, cntL, List.length_nil, Nat.pow_succ] at *
      omega
    · have h1 := shp_cnt d x hx
      have h2 := shp_cnt d y hy
      simp only [Ty.cnt, cntL, List.length_cons, List.length_nil, Nat.pow_succ] at *
      omega

theorem vld_cnt {t : Ty} (h : vld t = true) : t.cnt ≤ 30 := by
  have := shp_cnt 4 t h
  omega

theorem noTy_cnt {t : Ty} (h : noTy t = true) : t.cnt = 0 := by
  rw [noTy_eq h]
  simp [Ty.cnt, cntL]

theorem own_sz {k : Int} {nm : ByteArray} {num : Int} {ty fr : Ty} {lb : Int} (h : ownM k nm num ty fr lb = true) (h14 : (k != 14) = true) : nm.size ≤ 1 ∧ ty.cnt ≤ 30 ∧ fr.cnt = 0 := by
  have e14 : (k == 14) = false := by simpa using h14
  simp only [ownM, e14, Bool.false_or, Bool.and_eq_true, beq_iff_eq] at h
  obtain ⟨⟨⟨hn, hty⟩, hfr, -⟩, -⟩ := h
  refine ⟨?_, ?_, noTy_cnt hfr⟩
  · split at hn
    · simp only [isNm, Bool.and_eq_true, beq_iff_eq] at hn
      omega
    · simp only [beq_iff_eq] at hn
      omega
  · split at hty
    · exact vld_cnt hty
    · have := noTy_cnt hty
      omega

end Go.Proofs.YtjpmlmdbldcbjaaDoor

namespace Go.Proofs.YtjpmlmdbldcbjaaDoor
open Go.RowKit

def parts : Ty → List Ty
  | .mk _ ts => ts

def isG : Ty → Bool
  | .mk k ts => (k != 1) && ts.all (fun t => kindT t == 1)

/-- A cast that is a proxy of a kind. -/
def proxB (k : Int) (ty fr : Ty) (kk : Int) : Bool := k == 14 && (kindT fr == kk && kindT ty == kk)
def injB (k : Int) (ty fr : Ty) : Bool := k == 14 && (isG fr && kindT ty == 1)
def staysB (k : Int) (ty fr : Ty) : Bool := proxB k ty fr 4 || proxB k ty fr 5 || injB k ty fr

mutual
def isV : Tm → Bool
  | .mk k _ _ ty fr _ ts => if k = 2 ∨ k = 3 ∨ k = 4 ∨ k = 5 then true else if k = 10 then isVL ts else staysB k ty fr && isVL ts
def isVL : List Tm → Bool
  | [] => true
  | t :: ts => isV t && isVL ts
end

end Go.Proofs.YtjpmlmdbldcbjaaDoor

namespace Go.Proofs.YtjpmlmdbldcbjaaDoor
open Go.RowKit

def castT (e : Tm) (fr tg : Ty) (lb : Int) : Tm := .mk 14 ByteArray.empty 0 tg fr lb [e]
/-- The place of the first term that is no value. -/
def nv : List Tm → Nat
  | [] => 0
  | t :: ts => if isV t then nv ts + 1 else 0

/- Well formed at every node; depth; nodes. -/
def ndC (k : Int) (nm : ByteArray) (num : Int) (ty fr : Ty) (lb : Int) (n : Nat) : Bool := (kidsM k == (n : Int)) && (k != 13) && (if k = 14 then own4 nm num ty fr lb else ownM k nm num ty fr lb)

mutual
def okN : Tm → Bool
  | .mk k nm num ty fr lb ts => ndC k nm num ty fr lb ts.length && okNL ts
def okNL : List Tm → Bool
  | [] => true
  | t :: ts => okN t && okNL ts
end
mutual
def dps : Tm → Nat
  | .mk _ _ _ _ _ _ ts => dpsL ts + 1
def dpsL : List Tm → Nat
  | [] => 0
  | t :: ts => max (dps t) (dpsL ts)
end
mutual
def nds : Tm → Nat
  | .mk _ _ _ _ _ _ ts => ndsL ts + 1
def ndsL : List Tm → Nat
  | [] => 0
  | t :: ts => nds t + ndsL ts
end

theorem shpC_ok : ∀ (d : Nat) (t : Tm), shpC d t = (okN t && decide (dps t ≤ d))
  | 0, .mk k nm num ty fr lb ts => by simp [shpC, dps]
  | d + 1, .mk k nm num ty fr lb ts => by
    have hl : ∀ us : List Tm, us.all (shpC d) = (okNL us && decide (dpsL us ≤ d)) := by
      intro us
      induction us with
      | nil => simp [okNL, dpsL]
      | cons a bs ih =>
        rw [List.all_cons, ih, shpC_ok d a, Bool.eq_iff_iff]
        simp only [okNL, dpsL, Bool.and_eq_true, decide_eq_true_eq, Nat.max_le]
        constructor
        · rintro ⟨⟨p, q⟩, r, s⟩
          exact ⟨⟨p, r⟩, q, s⟩
        · rintro ⟨⟨p, r⟩, q, s⟩
          exact ⟨⟨p, q⟩, r, s⟩
    simp only [shpC, okN, dps, ndC]
    rw [hl]
    simp [Bool.and_assoc]

theorem cntD_nds : ∀ (d : Nat) (t : Tm), dps t ≤ d → cntD d t = (nds t : Int)
  | 0, .mk k nm num ty fr lb ts, h => by simp [dps] at h
  | d + 1, .mk k nm num ty fr lb ts, h => by
    have hl : ∀ us : List Tm, dpsL us ≤ d → sumL (cntD d) us = (ndsL us : Int) := by
      intro us
      induction us with
      | nil => intro _; simp [sumL, ndsL]
      | cons a bs ih =>
        intro h
        simp only [dpsL] at h
        simp only [sumL, ndsL]
        rw [ih (by omega), cntD_nds d a (by omega)]
        omega
    simp only [dps] at h
    simp only [cntD, nds]
    rw [hl ts (by omega)]
    omega

theorem vldC_ok (t : Tm) : vldC t = (okN t && (decide (dps t ≤ 40) && decide (nds t ≤ 200))) := by
  unfold vldC
  rw [shpC_ok]
  by_cases h : dps t ≤ 40
  · have hi : ((nds t : Int) ≤ 200) ↔ nds t ≤ 200 := by omega
    rw [cntD_nds 40 t h]
    simp [h, hi]
  · simp [h]


theorem own4_out {nm : ByteArray} {num : Int} {ty fr : Ty} {lb : Int} (h : own4 nm num ty fr lb = true) : isLb lb = true ∧ vld ty = true ∧ vld fr = true ∧ cons fr ty = true := by
  simp only [own4, Bool.and_eq_true] at h
  exact ⟨h.1.1.1.2, h.1.1.2, h.1.2, h.2⟩


theorem okN_kids {k : Int} {nm : ByteArray} {num : Int} {ty fr : Ty} {lb : Int} {ts : List Tm} (h : okN (.mk k nm num ty fr lb ts) = true) : kidsM k = (ts.length : Int) ∧ k ≠ 13 ∧ (if k = 14 then own4 nm num ty fr lb else ownM k nm num ty fr lb) = true ∧ okNL ts = true := by
  simp only [okN, ndC, Bool.and_eq_true, beq_iff_eq, bne_iff_ne, ne_eq] at h
  exact ⟨h.1.1.1, h.1.1.2, h.1.2, h.2⟩

end Go.Proofs.YtjpmlmdbldcbjaaDoor

namespace Go.Proofs.YtjpmlmdbldcbjaaDoor
open Go.RowKit

theorem own_szC {k : Int} {nm : ByteArray} {num : Int} {ty fr : Ty} {lb : Int} (h : (if k = 14 then own4 nm num ty fr lb else ownM k nm num ty fr lb) = true) : nm.size ≤ 1 ∧ ty.cnt ≤ 30 ∧ fr.cnt ≤ 30 := by
  split at h
  · obtain ⟨-, h1, h2, -⟩ := own4_out h
    have hz : nm.size = 0 := by
      simp only [own4, Bool.and_eq_true] at h
      have := h.1.1.1.1.1
      rw [ByteArray.toList_eq] at this
      have hd : nm.data = #[] := Array.toList_inj.1 (List.isEmpty_iff.1 this)
      show nm.data.size = 0
      rw [hd]
      rfl
    exact ⟨by omega, vld_cnt h1, vld_cnt h2⟩
  · rename_i h14
    obtain ⟨a, b, c⟩ := own_sz h (by simpa using h14)
    exact ⟨a, b, by omega⟩

theorem kids_le (k : Int) : kidsM k ≤ 3 := by
  unfold kidsM
  repeat' split
  all_goals omega

mutual
theorem ok_sz : ∀ t : Tm, okN t = true → t.sz + 1 ≤ 65 * nds t
  | .mk k nm num ty fr lb ts, h => by
    obtain ⟨hk, h13, hown, hts⟩ := okN_kids h
    obtain ⟨z1, z2, z3⟩ := own_szC hown
    have h3 := kids_le k
    have := ok_szL ts hts
    simp only [Tm.sz, nds]
    omega
theorem ok_szL : ∀ ts : List Tm, okNL ts = true → szML ts ≤ 65 * ndsL ts
  | [], _ => by simp [szML, ndsL]
  | t :: ts, h => by
    simp only [okNL, Bool.and_eq_true] at h
    have := ok_sz t h.1
    have := ok_szL ts h.2
    simp only [szML, ndsL]
    omega
end


theorem vldC_out {t : Tm} (h : vldC t = true) : okN t = true ∧ dps t ≤ 40 ∧ nds t ≤ 200 := by
  rw [vldC_ok] at h
  simpa only [Bool.and_eq_true, decide_eq_true_eq] using h

theorem vldC_sz {t : Tm} (h : vldC t = true) : t.sz ≤ 13000 := by
  obtain ⟨h1, -, h2⟩ := vldC_out h
  have := ok_sz t h1
  omega


end Go.Proofs.YtjpmlmdbldcbjaaDoor

namespace Go.Proofs.YtjpmlmdbldcbjaaDoor
open Go.RowKit

theorem Ty.At.kind {w : World} {t : Ty} {k : Int} {s : Value} {f : List Nat} (h : t.At w (.agg #[.int .i64 k, s]) f) : kindT t = k := by
  obtain ⟨j, ts, rfl⟩ := t.shape
  obtain ⟨s', hv, -⟩ := Ty.at_mk.1 h
  simp only [Value.agg.injEq, Array.mk.injEq, List.cons.injEq, Value.int.injEq, true_and, and_true] at hv
  exact hv.1.symm

end Go.Proofs.YtjpmlmdbldcbjaaDoor

namespace Go.Proofs.YtjpmlmdbldcbjaaDoor
open Go.RowKit

theorem castT_at {w : World} {t : Tm} {fr tg : Ty} {lb k1 k2 : Int} {n1 n2 c1 c2 : Nat} {a1 a2 : Option Addr} {s : Value} {f1 f2 f : List Nat} (h1 : tg.At w (.agg #[.int .i64 k1, .slice a1 n1 c1]) f1) (h2 : fr.At w (.agg #[.int .i64 k2, .slice a2 n2 c2]) f2) (hs : SmAt w [t] s f) :
    (castT t fr tg lb).At w (.agg #[.int .i64 14, .string ByteArray.empty, .int .i64 0, .int .i64 k1, .slice a1 n1 c1, .int .i64 k2, .slice a2 n2 c2, .int .i64 lb, s]) (f1 ++ (f2 ++ f)) :=
  Tm.at_mk.2 ⟨_, _, _, _, _, f1, f2, f, rfl, by simp, h1, h2, rfl, hs⟩

/-- A block of one term. -/
theorem sm_one {w : World} {t : Tm} {b : Nat} {v0 v1 v2 v3 v4 v5 v6 v7 v8 : Value} {f : List Nat} (hb : w.heap[b]? = some (.cells #[v0, v1, v2, v3, v4, v5, v6, v7, v8] 34 (0, 0))) (h : t.At w (.agg #[v0, v1, v2, v3, v4, v5, v6, v7, v8]) f) :
    SmAt w [t] (.slice (some ⟨b, 0, none⟩) 1 1) (b :: f) := by
  refine .inr ⟨b, 0, 1, f, rfl, by simp, by simp, by simp [maxLen], ?_, rfl⟩
  refine ⟨_, f, [], fun i hi => ?_, h, rfl, by simp⟩
  rw [Nat.zero_add, cell_of_block hb]

end Go.Proofs.YtjpmlmdbldcbjaaDoor

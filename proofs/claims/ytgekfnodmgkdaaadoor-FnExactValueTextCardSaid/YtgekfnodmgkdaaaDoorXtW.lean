/- The program's writeTerm. -/
import Derived.Test.YtgekfnodmgkdaaaDoorXtL
import Derived.Test.YtgekfnodmgkdaaaDoorBlw
import Derived.Lib.AppendIntMem
namespace Go.Proofs.YtgekfnodmgkdaaaDoor
open Go.RowKit

theorem tmXL_getD : ∀ (ts : List Tm) (i : Nat) (h : i < ts.length), (tmXL ts).getD i [] = tmX (ts[i]'h)
  | t :: ts, 0, _ => by simp [tmXL]
  | t :: ts, i + 1, h => by
    simp only [tmXL, List.getD_cons_succ, List.getElem_cons_succ]
    exact tmXL_getD ts i (by simpa using h)

theorem Tm.At.belowB9 {B : Nat} {w w' : World} {t : Tm} {v : Value} {fp : List Nat} (h : t.At w v fp) (hb : Below B w w') (hf : ∀ x ∈ fp, x < B) : t.At w' v fp :=
  h.congr fun b hm o => hb.cell (p := ⟨b, o, none⟩) (hf b hm)

theorem forms_belowB {M : Nat} {w w' : World} (h : Forms w) (hb : Below M w w') (hM : 0 < M) : Forms w' := fun j hj => (hb.cell (p := ⟨0, j, none⟩) hM).trans (h j hj)

/-- A builder stands in a world with new blocks alone. -/
theorem isb_below {B b : Nat} {bs : List Value} {w w' : World} (h : Lib.IsBuilderF 83 5 B b bs w) (hb : Below w.heap.size w w') (_hlt : b < w.heap.size) : Lib.IsBuilderF 83 5 B b bs w' := by
  have one : ∀ p, Lib.BuilderAtF 83 5 B b p bs w → Lib.BuilderAtF 83 5 B b p bs w' := fun p hp => by
    obtain ⟨hB, v, hv, hown, hne⟩ := hp
    refine ⟨hB, v, blk hv hb, hown.kept (grown_of_below hb none) ?_, hne⟩
    cases v.ownBlock with
    | none => exact .inl rfl
    | some b => exact .inr (by simp)
  exact h.imp (one _) (one _)

theorem flat_snoc {f : UInt8 → List UInt8} (acc l : List UInt8) (c : UInt8) : acc ++ (l ++ [c]).flatMap f = (acc ++ l.flatMap f) ++ f c := by simp

theorem pcX_kid (nm : ByteArray) (num : Int) (ty fr : Ty) (lb : Int) (xs : List (List UInt8)) : pcX nm num ty fr lb xs 65 = xs.getD 0 [] ∧ pcX nm num ty fr lb xs 66 = xs.getD 1 [] ∧ pcX nm num ty fr lb xs 67 = xs.getD 2 [] := by
  refine ⟨?_, ?_, ?_⟩ <;> simp [pcX]

theorem okept_below {b : Nat} {w w' : World} (hb : Below w.heap.size w w') : Lib.OthersKept 5 (some b) w w' := fun k _ hk _ _ => (hb.block k (lt_of_block hk)).trans hk

/-- A term's box stands beside a builder that is written. -/
theorem okept_box9 {w wr : World} {x0 x1 x2 x3 x4 x5 x6 x7 x8 : Value} {b : Nat} (h : Lib.OthersKept 5 (some b) (w.alloc (Obj.cells #[x0, x1, x2, x3, x4, x5, x6, x7, x8] 35)) wr) (hb : b < w.heap.size) :
    wr.heap[w.heap.size]? = some (Obj.cells #[x0, x1, x2, x3, x4, x5, x6, x7, x8] 35) :=
  h w.heap.size _ (alloc_new w _) (fun e => by have := Option.some.inj e; omega) (fun c fz e => by simp at e)

/-- What the signs of a form ask of a node. -/
theorem sign_ok : ∀ k : Nat, 1 ≤ k → k < 15 → ∀ c ∈ (frm k).data.toList, (c = 65 → 1 ≤ kidsM k) ∧ (c = 66 → 2 ≤ kidsM k) ∧ (c = 67 → 3 ≤ kidsM k) ∧ (c = 110 → k = 1 ∨ k = 5) ∧ (c = 100 → k = 2) ∧ (c = 116 → k = 5 ∨ k = 13 ∨ k = 14) ∧ (c = 115 → k = 14) ∧ (c = 108 → k = 14) := by
  intro k h1 h2
  have : k = 1 ∨ k = 2 ∨ k = 3 ∨ k = 4 ∨ k = 5 ∨ k = 6 ∨ k = 7 ∨ k = 8 ∨ k = 9 ∨ k = 10 ∨ k = 11 ∨ k = 12 ∨ k = 13 ∨ k = 14 := by omega
  rcases this with rfl | rfl | rfl | rfl | rfl | rfl | rfl | rfl | rfl | rfl | rfl | rfl | rfl | rfl <;> decide

def WmC (t : Tm) : Prop := ∀ (d : Nat) (v : Value) (fp : List Nat) (B b : Nat) (acc : List UInt8) (w : World), t.At w v fp → xOk d t = true → t.sz ≤ 1048576 → (∀ x ∈ fp, x < B) → Forms w → Lib.TabBelow Tryd.prog B w "internal/strconv.uint64pow10" .u64 Lib.pow10Tab → 0 < B → B ≤ w.heap.size → b < w.heap.size → acc.length + (tmX t).length ≤ 1099511000000 →
  Lib.IsBuilderF 83 5 B b (Lib.byteCells acc) w → Calls Tryd.prog 218 #[.pointer (some ⟨b, 0, none⟩), v] w fun e w' => (∃ r, e = .returned r) ∧ Lib.IsBuilderF 83 5 B b (Lib.byteCells (acc ++ tmX t)) w' ∧ Below B w w' ∧ Lib.OthersKept 5 (some b) w w'

set_option linter.unusedSimpArgs false in
set_option linter.unusedVariables false in
set_option maxRecDepth 100000 in
set_option maxHeartbeats 8000000 in
theorem writeTerm_of (k : Int) (nm : ByteArray) (num : Int) (ty fr : Ty) (lb : Int) (ts : List Tm) (ih : ∀ t ∈ ts, WmC t) : WmC (.mk k nm num ty fr lb ts) := by
  intro d v fp B b acc w hat hok hsz hfp hF htab hFB hBw hbw hacc hI0
  have HIH := hid ih
  clear ih
  obtain ⟨hk, hkid, hty, hfr, hnum, hlb, hnm1, d', hts⟩ := xOk_node hok
  obtain ⟨jk, rfl⟩ : ∃ j : Nat, k = (j : Int) := ⟨k.toNat, by omega⟩
  have hj1 : 1 ≤ jk := by omega
  have hj2 : jk < 15 := by omega
  obtain ⟨k1, n1, a1, c1, k2, n2, a2, c2, a3, c3, f1, f2, f3, rfl, hnm, ht1, ht2, rfl, hs⟩ := hat.parts
  have hb0 : Below B w (w.alloc (Obj.cells #[.int .i64 (jk : Int), .string nm, .int .i64 num, .int .i64 k1, .slice a1 n1 c1, .int .i64 k2, .slice a2 n2 c2, .int .i64 lb, .slice a3 ts.length c3] 35)) := (Below.refl _ _).alloc hBw _
  have hform : ((w.alloc (Obj.cells #[.int .i64 (jk : Int), .string nm, .int .i64 num, .int .i64 k1, .slice a1 n1 c1, .int .i64 k2, .slice a2 n2 c2, .int .i64 lb, .slice a3 ts.length c3] 35))).cell? ⟨0, jk, none⟩ = some (.string (frm jk)) := (hb0.cell (p := ⟨0, jk, none⟩) hFB).trans (hF jk hj2)
  obtain ⟨aa, cap, hss, hc, hm, hget⟩ := hs.open
  cases hss
  have hblk : ∀ bq o, a3 = some ⟨bq, o, none⟩ → 0 < ts.length → bq ∈ f3 := fun bq o e hp => by
    rcases hs with ⟨h0, _⟩ | ⟨b', o', cap', f, e', _, _, _, _, rfl⟩
    · rw [h0] at hp; simp at hp
    · rw [e] at e'
      cases e'
      simp
  have HBK := hid hblk
  have HS3 := hid (show ∀ x ∈ f3, x < B from fun x hx => hfp x (by simp [hx]))
  have HF1 := hid (show ∀ x ∈ f1, x < B from fun x hx => hfp x (by simp [hx]))
  have HF2 := hid (show ∀ x ∈ f2, x < B from fun x hx => hfp x (by simp [hx]))
  have HT1 := hid ht1
  have HT2 := hid ht2
  have HG := hid hget
  have HKID := hid hkid
  have HTY := hid hty
  have HFR := hid hfr
  have HNUM := hid hnum
  have HLB := hid hlb
  have HNM := hid hnm1
  have HTS := hid hts
  have HFM := hid hF
  have HTAB := hid htab
  have HB0 := hid hb0
  have HSZ := hid (show ts.length + szML ts ≤ 1048576 by simp only [Tm.sz] at hsz; omega)
  have HSG := hid (sign_ok jk hj1 hj2)
  have HTX := hid (show tmX (.mk (jk : Int) nm num ty fr lb ts) = (frm jk).data.toList.flatMap (pcX nm num ty fr lb (tmXL ts)) by simp [tmX, fmX])
  have HACC := hid hacc
  have HI1 := hid (hI0.alloc (Obj.cells #[.int .i64 (jk : Int), .string nm, .int .i64 num, .int .i64 k1, .slice a1 n1 c1, .int .i64 k2, .slice a2 n2 c2, .int .i64 lb, .slice a3 ts.length c3] 35))
  have HK1 := hid ((Lib.OthersKept.refl 5 (some b) w).alloc (Obj.cells #[.int .i64 (jk : Int), .string nm, .int .i64 num, .int .i64 k1, .slice a1 n1 c1, .int .i64 k2, .slice a2 n2 c2, .int .i64 lb, .slice a3 ts.length c3] 35))
  have hfs : (frm jk).size ≤ 9 := by
    have : jk = 1 ∨ jk = 2 ∨ jk = 3 ∨ jk = 4 ∨ jk = 5 ∨ jk = 6 ∨ jk = 7 ∨ jk = 8 ∨ jk = 9 ∨ jk = 10 ∨ jk = 11 ∨ jk = 12 ∨ jk = 13 ∨ jk = 14 := by omega
    rcases this with rfl | rfl | rfl | rfl | rfl | rfl | rfl | rfl | rfl | rfl | rfl | rfl | rfl | rfl <;> decide
  have hfl : (frm jk).data.toList.length = (frm jk).size := rfl
  obtain ⟨y0, y1, y2, y3, y4, y5, y6, y7, y8⟩ := box9 (Below.refl (w.alloc (Obj.cells #[.int .i64 (jk : Int), .string nm, .int .i64 num, .int .i64 k1, .slice a1 n1 c1, .int .i64 k2, .slice a2 n2 c2, .int .i64 lb, .slice a3 ts.length c3] 35)).heap.size (w.alloc (Obj.cells #[.int .i64 (jk : Int), .string nm, .int .i64 num, .int .i64 k1, .slice a1 n1 c1, .int .i64 k2, .slice a2 n2 c2, .int .i64 lb, .slice a3 ts.length c3] 35)))
  clear hget hblk hs hfp hat hok hsz hty hfr hnum hlb hnm1 hts hF htab hacc hI0 ht1 ht2 hkid hk hc hm hb0
  go_enter Tryd.func218, Tryd.ntmps218
  go_wp2_with fail
  go_loopw [13] (fun i wr => ∃ j : Nat, j ≤ (frm jk).size ∧ i = .int .i64 j ∧ Lib.IsBuilderF 83 5 B b (Lib.byteCells (acc ++ ((frm jk).data.toList.take j).flatMap (pcX nm num ty fr lb (tmXL ts)))) wr ∧ Below B (w.alloc (Obj.cells #[.int .i64 (jk : Int), .string nm, .int .i64 num, .int .i64 k1, .slice a1 n1 c1, .int .i64 k2, .slice a2 n2 c2, .int .i64 lb, .slice a3 ts.length c3] 35)) wr ∧ Lib.OthersKept 5 (some b) (w.alloc (Obj.cells #[.int .i64 (jk : Int), .string nm, .int .i64 num, .int .i64 k1, .slice a1 n1 c1, .int .i64 k2, .slice a2 n2 c2, .int .i64 lb, .slice a3 ts.length c3] 35)) wr) (fun i _ => (frm jk).size - (intOf i).toNat)
  case atStart => exact ⟨0, Nat.zero_le _, rfl, by simpa using HI1.out, Below.refl _ _, Lib.OthersKept.refl _ _ _⟩
  case round =>
    obtain ⟨j, hj, rfl, hI, hbq, hkq⟩ := hrel
    have hbx := okept_box9 hkq hbw
    have HBR := hid hbq
    have HKR := hid hkq
    have hBr : B ≤ wr.heap.size := Nat.le_trans (by simp; omega : B ≤ ((w.alloc (Obj.cells #[.int .i64 (jk : Int), .string nm, .int .i64 num, .int .i64 k1, .slice a1 n1 c1, .int .i64 k2, .slice a2 n2 c2, .int .i64 lb, .slice a3 ts.length c3] 35))).heap.size) hbq.size
    have hbr : b < wr.heap.size := by have := hbq.size; simp at this; omega
    obtain ⟨z0, z1, z2, z3, z4, z5, z6, z7, z8⟩ := cells9 hbx
    clear hbq hkq hbx y0 y1 y2 y3 y4 y5 y6 y7 y8
    by_cases hlk : j < (frm jk).size
    · have hjl : j < (frm jk).data.toList.length := by rw [hfl]; exact hlk
      obtain ⟨c, hc⟩ : ∃ c : UInt8, c = (frm jk).data.toList[j] := ⟨_, rfl⟩
      have hcm : c ∈ (frm jk).data.toList := by rw [hc]; exact List.getElem_mem hjl
      have hcj : (frm jk)[j]'hlk = c := by rw [hc]; rfl
      have HTK := hid (show (frm jk).data.toList.take (j + 1) = (frm jk).data.toList.take j ++ [c] by rw [hc]; exact (List.take_succ_eq_append_getElem hjl))
      have HLQ := hid (show (acc ++ ((frm jk).data.toList.take (j + 1)).flatMap (pcX nm num ty fr lb (tmXL ts))).length ≤ 1099511000000 by
        have h1 := HACC.out
        rw [HTX.out] at h1
        have h2 : (((frm jk).data.toList.take (j + 1)).flatMap (pcX nm num ty fr lb (tmXL ts))).length ≤ ((frm jk).data.toList.flatMap (pcX nm num ty fr lb (tmXL ts))).length := by
          conv => rhs; rw [← List.take_append_drop (j + 1) (frm jk).data.toList]
          rw [List.flatMap_append, List.length_append]
          omega
        rw [List.length_append]
        omega)
      have hcl : c.toNat < 256 := c.toNat_lt
      clear hc
      by_cases d65 : c = 65
      · subst d65
        have hkn : 0 < ts.length := by have := (HSG.out 65 hcm).1 rfl; have := HKID.out; omega
        have HSTEP := hid (show acc ++ ((frm jk).data.toList.take (j + 1)).flatMap (pcX nm num ty fr lb (tmXL ts)) = (acc ++ ((frm jk).data.toList.take j).flatMap (pcX nm num ty fr lb (tmXL ts))) ++ tmX (ts[0]'hkn) by
          rw [HTK.out, flat_snoc, (pcX_kid nm num ty fr lb (tmXL ts)).1, tmXL_getD ts 0 hkn])
        have HLEN := hid (show (acc ++ ((frm jk).data.toList.take j).flatMap (pcX nm num ty fr lb (tmXL ts))).length + (tmX (ts[0]'hkn)).length ≤ 1099511000000 by rw [← List.length_append, ← HSTEP.out]; exact HLQ.out)
        obtain ⟨bb, o, q0, q1, q2, q3, q4, q5, q6, q7, q8, q9, q10, q11, q12, q13, q14, g1, hab, hblt, e0, e1, e2, e3, e4, e5, e6, e7, e8, hatk, hf⟩ := HG.out 0 hkn
        have hbB : bb < B := HS3.out bb (HBK.out bb o hab (by omega))
        subst hab
        have hg1 : ∀ x ∈ g1, x < B := fun x hx => HS3.out x (hf x hx)
        have HATK := hid ((hatk.belowB9 HB0.out hg1).belowB9 HBR.out hg1)
        replace e0 := (HBR.out.cell (p := ⟨bb, o + 0 * 9, none⟩) hbB).trans ((HB0.out.cell (p := ⟨bb, o + 0 * 9, none⟩) hbB).trans e0)
        replace e1 := (HBR.out.cell (p := ⟨bb, o + 0 * 9 + 1, none⟩) hbB).trans ((HB0.out.cell (p := ⟨bb, o + 0 * 9 + 1, none⟩) hbB).trans e1)
        replace e2 := (HBR.out.cell (p := ⟨bb, o + 0 * 9 + 2, none⟩) hbB).trans ((HB0.out.cell (p := ⟨bb, o + 0 * 9 + 2, none⟩) hbB).trans e2)
        replace e3 := (HBR.out.cell (p := ⟨bb, o + 0 * 9 + 3, none⟩) hbB).trans ((HB0.out.cell (p := ⟨bb, o + 0 * 9 + 3, none⟩) hbB).trans e3)
        replace e4 := (HBR.out.cell (p := ⟨bb, o + 0 * 9 + 4, none⟩) hbB).trans ((HB0.out.cell (p := ⟨bb, o + 0 * 9 + 4, none⟩) hbB).trans e4)
        replace e5 := (HBR.out.cell (p := ⟨bb, o + 0 * 9 + 5, none⟩) hbB).trans ((HB0.out.cell (p := ⟨bb, o + 0 * 9 + 5, none⟩) hbB).trans e5)
        replace e6 := (HBR.out.cell (p := ⟨bb, o + 0 * 9 + 6, none⟩) hbB).trans ((HB0.out.cell (p := ⟨bb, o + 0 * 9 + 6, none⟩) hbB).trans e6)
        replace e7 := (HBR.out.cell (p := ⟨bb, o + 0 * 9 + 7, none⟩) hbB).trans ((HB0.out.cell (p := ⟨bb, o + 0 * 9 + 7, none⟩) hbB).trans e7)
        replace e8 := (HBR.out.cell (p := ⟨bb, o + 0 * 9 + 8, none⟩) hbB).trans ((HB0.out.cell (p := ⟨bb, o + 0 * 9 + 8, none⟩) hbB).trans e8)
        simp only [Nat.zero_mul, Nat.add_zero] at e0
        simp only [Nat.zero_mul, Nat.add_zero] at e1
        simp only [Nat.zero_mul, Nat.add_zero] at e2
        simp only [Nat.zero_mul, Nat.add_zero] at e3
        simp only [Nat.zero_mul, Nat.add_zero] at e4
        simp only [Nat.zero_mul, Nat.add_zero] at e5
        simp only [Nat.zero_mul, Nat.add_zero] at e6
        simp only [Nat.zero_mul, Nat.add_zero] at e7
        simp only [Nat.zero_mul, Nat.add_zero] at e8
        have HG1 := hid hg1
        have HSZK := hid (show (ts[0]'hkn).sz ≤ 1048576 by have := HSZ.out; have := sz_mem (List.getElem_mem hkn); omega)
        have HCALL := hid (HIH.out _ (List.getElem_mem hkn) d' _ _ B b _ _ HATK.out (HTS.out _ (List.getElem_mem hkn)) HSZK.out HG1.out (forms_belowB (forms_belowB HFM.out HB0.out hFB) HBR.out hFB) ((HTAB.out.on HB0.out).on HBR.out) hFB hBr hbr HLEN.out hI)
        generalize ts[0]'hkn = tk at *
        clear hatk hf hg1
        go_wp2_with fail
        refine HCALL.out.mono ?_
        rintro e wz ⟨⟨r9, rfl⟩, hi, hbz, hkz⟩
        clear e0 e1 e2 e3 e4 e5 e6 e7 e8
        have HF := hid (And.intro hi (And.intro (HBR.out.trans hbz) (HKR.out.trans hkz)))
        clear hi hbz hkz
        go_wp2_with fail
        go_roundw
        case rel => exact ⟨j + 1, by omega, by go_num, by rw [HSTEP.out]; exact HF.out.1, HF.out.2.1, HF.out.2.2⟩
        case measure => simp [intOf]; omega
      by_cases d66 : c = 66
      · subst d66
        have hkn : 1 < ts.length := by have := (HSG.out 66 hcm).2.1 rfl; have := HKID.out; omega
        have HSTEP := hid (show acc ++ ((frm jk).data.toList.take (j + 1)).flatMap (pcX nm num ty fr lb (tmXL ts)) = (acc ++ ((frm jk).data.toList.take j).flatMap (pcX nm num ty fr lb (tmXL ts))) ++ tmX (ts[1]'hkn) by
          rw [HTK.out, flat_snoc, (pcX_kid nm num ty fr lb (tmXL ts)).2.1, tmXL_getD ts 1 hkn])
        have HLEN := hid (show (acc ++ ((frm jk).data.toList.take j).flatMap (pcX nm num ty fr lb (tmXL ts))).length + (tmX (ts[1]'hkn)).length ≤ 1099511000000 by rw [← List.length_append, ← HSTEP.out]; exact HLQ.out)
        obtain ⟨bb, o, q0, q1, q2, q3, q4, q5, q6, q7, q8, q9, q10, q11, q12, q13, q14, g1, hab, hblt, e0, e1, e2, e3, e4, e5, e6, e7, e8, hatk, hf⟩ := HG.out 1 hkn
        have hbB : bb < B := HS3.out bb (HBK.out bb o hab (by omega))
        subst hab
        have hg1 : ∀ x ∈ g1, x < B := fun x hx => HS3.out x (hf x hx)
        have HATK := hid ((hatk.belowB9 HB0.out hg1).belowB9 HBR.out hg1)
        replace e0 := (HBR.out.cell (p := ⟨bb, o + 1 * 9, none⟩) hbB).trans ((HB0.out.cell (p := ⟨bb, o + 1 * 9, none⟩) hbB).trans e0)
        replace e1 := (HBR.out.cell (p := ⟨bb, o + 1 * 9 + 1, none⟩) hbB).trans ((HB0.out.cell (p := ⟨bb, o + 1 * 9 + 1, none⟩) hbB).trans e1)
        replace e2 := (HBR.out.cell (p := ⟨bb, o + 1 * 9 + 2, none⟩) hbB).trans ((HB0.out.cell (p := ⟨bb, o + 1 * 9 + 2, none⟩) hbB).trans e2)
        replace e3 := (HBR.out.cell (p := ⟨bb, o + 1 * 9 + 3, none⟩) hbB).trans ((HB0.out.cell (p := ⟨bb, o + 1 * 9 + 3, none⟩) hbB).trans e3)
        replace e4 := (HBR.out.cell (p := ⟨bb, o + 1 * 9 + 4, none⟩) hbB).trans ((HB0.out.cell (p := ⟨bb, o + 1 * 9 + 4, none⟩) hbB).trans e4)
        replace e5 := (HBR.out.cell (p := ⟨bb, o + 1 * 9 + 5, none⟩) hbB).trans ((HB0.out.cell (p := ⟨bb, o + 1 * 9 + 5, none⟩) hbB).trans e5)
        replace e6 := (HBR.out.cell (p := ⟨bb, o + 1 * 9 + 6, none⟩) hbB).trans ((HB0.out.cell (p := ⟨bb, o + 1 * 9 + 6, none⟩) hbB).trans e6)
        replace e7 := (HBR.out.cell (p := ⟨bb, o + 1 * 9 + 7, none⟩) hbB).trans ((HB0.out.cell (p := ⟨bb, o + 1 * 9 + 7, none⟩) hbB).trans e7)
        replace e8 := (HBR.out.cell (p := ⟨bb, o + 1 * 9 + 8, none⟩) hbB).trans ((HB0.out.cell (p := ⟨bb, o + 1 * 9 + 8, none⟩) hbB).trans e8)
        have HG1 := hid hg1
        have HSZK := hid (show (ts[1]'hkn).sz ≤ 1048576 by have := HSZ.out; have := sz_mem (List.getElem_mem hkn); omega)
        have HCALL := hid (HIH.out _ (List.getElem_mem hkn) d' _ _ B b _ _ HATK.out (HTS.out _ (List.getElem_mem hkn)) HSZK.out HG1.out (forms_belowB (forms_belowB HFM.out HB0.out hFB) HBR.out hFB) ((HTAB.out.on HB0.out).on HBR.out) hFB hBr hbr HLEN.out hI)
        generalize ts[1]'hkn = tk at *
        clear hatk hf hg1
        go_wp2_with fail
        refine HCALL.out.mono ?_
        rintro e wz ⟨⟨r9, rfl⟩, hi, hbz, hkz⟩
        clear e0 e1 e2 e3 e4 e5 e6 e7 e8
        have HF := hid (And.intro hi (And.intro (HBR.out.trans hbz) (HKR.out.trans hkz)))
        clear hi hbz hkz
        go_wp2_with fail
        go_roundw
        case rel => exact ⟨j + 1, by omega, by go_num, by rw [HSTEP.out]; exact HF.out.1, HF.out.2.1, HF.out.2.2⟩
        case measure => simp [intOf]; omega
      by_cases d67 : c = 67
      · subst d67
        have hkn : 2 < ts.length := by have := (HSG.out 67 hcm).2.2.1 rfl; have := HKID.out; omega
        have HSTEP := hid (show acc ++ ((frm jk).data.toList.take (j + 1)).flatMap (pcX nm num ty fr lb (tmXL ts)) = (acc ++ ((frm jk).data.toList.take j).flatMap (pcX nm num ty fr lb (tmXL ts))) ++ tmX (ts[2]'hkn) by
          rw [HTK.out, flat_snoc, (pcX_kid nm num ty fr lb (tmXL ts)).2.2, tmXL_getD ts 2 hkn])
        have HLEN := hid (show (acc ++ ((frm jk).data.toList.take j).flatMap (pcX nm num ty fr lb (tmXL ts))).length + (tmX (ts[2]'hkn)).length ≤ 1099511000000 by rw [← List.length_append, ← HSTEP.out]; exact HLQ.out)
        obtain ⟨bb, o, q0, q1, q2, q3, q4, q5, q6, q7, q8, q9, q10, q11, q12, q13, q14, g1, hab, hblt, e0, e1, e2, e3, e4, e5, e6, e7, e8, hatk, hf⟩ := HG.out 2 hkn
        have hbB : bb < B := HS3.out bb (HBK.out bb o hab (by omega))
        subst hab
        have hg1 : ∀ x ∈ g1, x < B := fun x hx => HS3.out x (hf x hx)
        have HATK := hid ((hatk.belowB9 HB0.out hg1).belowB9 HBR.out hg1)
        replace e0 := (HBR.out.cell (p := ⟨bb, o + 2 * 9, none⟩) hbB).trans ((HB0.out.cell (p := ⟨bb, o + 2 * 9, none⟩) hbB).trans e0)
        replace e1 := (HBR.out.cell (p := ⟨bb, o + 2 * 9 + 1, none⟩) hbB).trans ((HB0.out.cell (p := ⟨bb, o + 2 * 9 + 1, none⟩) hbB).trans e1)
        replace e2 := (HBR.out.cell (p := ⟨bb, o + 2 * 9 + 2, none⟩) hbB).trans ((HB0.out.cell (p := ⟨bb, o + 2 * 9 + 2, none⟩) hbB).trans e2)
        replace e3 := (HBR.out.cell (p := ⟨bb, o + 2 * 9 + 3, none⟩) hbB).trans ((HB0.out.cell (p := ⟨bb, o + 2 * 9 + 3, none⟩) hbB).trans e3)
        replace e4 := (HBR.out.cell (p := ⟨bb, o + 2 * 9 + 4, none⟩) hbB).trans ((HB0.out.cell (p := ⟨bb, o + 2 * 9 + 4, none⟩) hbB).trans e4)
        replace e5 := (HBR.out.cell (p := ⟨bb, o + 2 * 9 + 5, none⟩) hbB).trans ((HB0.out.cell (p := ⟨bb, o + 2 * 9 + 5, none⟩) hbB).trans e5)
        replace e6 := (HBR.out.cell (p := ⟨bb, o + 2 * 9 + 6, none⟩) hbB).trans ((HB0.out.cell (p := ⟨bb, o + 2 * 9 + 6, none⟩) hbB).trans e6)
        replace e7 := (HBR.out.cell (p := ⟨bb, o + 2 * 9 + 7, none⟩) hbB).trans ((HB0.out.cell (p := ⟨bb, o + 2 * 9 + 7, none⟩) hbB).trans e7)
        replace e8 := (HBR.out.cell (p := ⟨bb, o + 2 * 9 + 8, none⟩) hbB).trans ((HB0.out.cell (p := ⟨bb, o + 2 * 9 + 8, none⟩) hbB).trans e8)
        have HG1 := hid hg1
        have HSZK := hid (show (ts[2]'hkn).sz ≤ 1048576 by have := HSZ.out; have := sz_mem (List.getElem_mem hkn); omega)
        have HCALL := hid (HIH.out _ (List.getElem_mem hkn) d' _ _ B b _ _ HATK.out (HTS.out _ (List.getElem_mem hkn)) HSZK.out HG1.out (forms_belowB (forms_belowB HFM.out HB0.out hFB) HBR.out hFB) ((HTAB.out.on HB0.out).on HBR.out) hFB hBr hbr HLEN.out hI)
        generalize ts[2]'hkn = tk at *
        clear hatk hf hg1
        go_wp2_with fail
        refine HCALL.out.mono ?_
        rintro e wz ⟨⟨r9, rfl⟩, hi, hbz, hkz⟩
        clear e0 e1 e2 e3 e4 e5 e6 e7 e8
        have HF := hid (And.intro hi (And.intro (HBR.out.trans hbz) (HKR.out.trans hkz)))
        clear hi hbz hkz
        go_wp2_with fail
        go_roundw
        case rel => exact ⟨j + 1, by omega, by go_num, by rw [HSTEP.out]; exact HF.out.1, HF.out.2.1, HF.out.2.2⟩
        case measure => simp [intOf]; omega
      by_cases d110 : c = 110
      · subst d110
        have HSTEP := hid (show acc ++ ((frm jk).data.toList.take (j + 1)).flatMap (pcX nm num ty fr lb (tmXL ts)) = (acc ++ ((frm jk).data.toList.take j).flatMap (pcX nm num ty fr lb (tmXL ts))) ++ nm.data.toList by rw [HTK.out, flat_snoc]; simp [pcX])
        have hnn : (⟨nm.data.toList.toArray⟩ : ByteArray) = nm := by simp
        have HL1 := hid (show ((acc ++ ((frm jk).data.toList.take j).flatMap (pcX nm num ty fr lb (tmXL ts))) ++ nm.data.toList).length ≤ 1099511000000 by rw [← HSTEP.out]; exact HLQ.out)
        have HW := hid (writeS B b _ nm.data.toList _ hI (by have := HL1.out; simp only [List.length_append] at this ⊢; omega) hBr)
        rw [hnn] at HW
        clear hnn
        go_wp2_with fail
        refine HW.out.mono ?_
        rintro e wz ⟨⟨r9, rfl⟩, hi, hbz, hkz⟩
        have HF := hid (And.intro hi (And.intro (HBR.out.trans hbz) (HKR.out.trans hkz)))
        clear hi hbz hkz
        go_wp2_with fail
        go_roundw
        case rel => exact ⟨j + 1, by omega, by go_num, by rw [HSTEP.out]; exact HF.out.1, HF.out.2.1, HF.out.2.2⟩
        case measure => simp [intOf]; omega
      by_cases d100 : c = 100
      · subst d100
        have HSTEP := hid (show acc ++ ((frm jk).data.toList.take (j + 1)).flatMap (pcX nm num ty fr lb (tmXL ts)) = (acc ++ ((frm jk).data.toList.take j).flatMap (pcX nm num ty fr lb (tmXL ts))) ++ Lib.itoa num by rw [HTK.out, flat_snoc]; simp [pcX])
        have hrg := HNUM.out (by have := (HSG.out 100 hcm).2.2.2.2.1 rfl; omega)
        have HL1 := hid (show ((acc ++ ((frm jk).data.toList.take j).flatMap (pcX nm num ty fr lb (tmXL ts))) ++ Lib.itoa num).length ≤ 1099511000000 by rw [← HSTEP.out]; exact HLQ.out)
        go_wp2_with fail
        refine (itoaAny num (by omega) (by omega) _ ((HTAB.out.on HB0.out).on HBR.out).here).mono ?_
        rintro e wy ⟨rfl, kq, os, rfl⟩
        have hby := Lib.below_grow (B := wr.heap.size) wr (Nat.le_refl _) kq os
        have hI1 := isb_below hI hby hbr
        have hky : Lib.OthersKept 5 (some b) wr (Sort.grow (wr.drewN kq) os) := okept_below hby
        have hB1r : B ≤ (Sort.grow (wr.drewN kq) os).heap.size := Nat.le_trans hBr hby.size
        have hbB' : Below B wr (Sort.grow (wr.drewN kq) os) := hby.mono hBr
        generalize Sort.grow (wr.drewN kq) os = wy at *
        go_wp2_with fail
        refine (writeS B b _ (Lib.itoa num) _ hI1 (by have := HL1.out; simp only [List.length_append] at this ⊢; omega) hB1r).mono ?_
        rintro e wz ⟨⟨r9, rfl⟩, hi, hbz, hkz⟩
        replace hbz := hbB'.trans hbz
        replace hkz := hky.trans hkz
        clear hby hI1 hky hB1r hbB' hI
        have HF := hid (And.intro hi (And.intro (HBR.out.trans hbz) (HKR.out.trans hkz)))
        clear hi hbz hkz
        go_wp2_with fail
        go_roundw
        case rel => exact ⟨j + 1, by omega, by go_num, by rw [HSTEP.out]; exact HF.out.1, HF.out.2.1, HF.out.2.2⟩
        case measure => simp [intOf]; omega
      by_cases d116 : c = 116
      · subst d116
        have HSTEP := hid (show acc ++ ((frm jk).data.toList.take (j + 1)).flatMap (pcX nm num ty fr lb (tmXL ts)) = (acc ++ ((frm jk).data.toList.take j).flatMap (pcX nm num ty fr lb (tmXL ts))) ++ txt 4 ty by rw [HTK.out, flat_snoc]; simp [pcX])
        have HVT := hid (HTY.out (by have := (HSG.out 116 hcm).2.2.2.2.2.1 rfl; omega))
        have HL1 := hid (show ((acc ++ ((frm jk).data.toList.take j).flatMap (pcX nm num ty fr lb (tmXL ts))) ++ txt 4 ty).length ≤ 1099511000000 by rw [← HSTEP.out]; exact HLQ.out)
        have HW := hid (writeType_any 4 ty _ f1 B b _ _ (Nat.le_refl _) HVT.out ((HT1.out.belowB HB0.out HF1.out).belowB HBR.out HF1.out) HF1.out hBr hbr (by have := HL1.out; simp only [List.length_append] at this ⊢; omega) hI)
        go_wp2_with fail
        refine HW.out.mono ?_
        rintro e wz ⟨rfl, hi, hbz, hkz⟩
        have HF := hid (And.intro hi (And.intro (HBR.out.trans hbz) (HKR.out.trans hkz)))
        clear hi hbz hkz
        go_wp2_with fail
        go_roundw
        case rel => exact ⟨j + 1, by omega, by go_num, by rw [HSTEP.out]; exact HF.out.1, HF.out.2.1, HF.out.2.2⟩
        case measure => simp [intOf]; omega
      by_cases d115 : c = 115
      · subst d115
        have HSTEP := hid (show acc ++ ((frm jk).data.toList.take (j + 1)).flatMap (pcX nm num ty fr lb (tmXL ts)) = (acc ++ ((frm jk).data.toList.take j).flatMap (pcX nm num ty fr lb (tmXL ts))) ++ txt 4 fr by rw [HTK.out, flat_snoc]; simp [pcX])
        have HVT := hid (HFR.out (by have := (HSG.out 115 hcm).2.2.2.2.2.2.1 rfl; omega))
        have HL1 := hid (show ((acc ++ ((frm jk).data.toList.take j).flatMap (pcX nm num ty fr lb (tmXL ts))) ++ txt 4 fr).length ≤ 1099511000000 by rw [← HSTEP.out]; exact HLQ.out)
        have HW := hid (writeType_any 4 fr _ f2 B b _ _ (Nat.le_refl _) HVT.out ((HT2.out.belowB HB0.out HF2.out).belowB HBR.out HF2.out) HF2.out hBr hbr (by have := HL1.out; simp only [List.length_append] at this ⊢; omega) hI)
        go_wp2_with fail
        refine HW.out.mono ?_
        rintro e wz ⟨rfl, hi, hbz, hkz⟩
        have HF := hid (And.intro hi (And.intro (HBR.out.trans hbz) (HKR.out.trans hkz)))
        clear hi hbz hkz
        go_wp2_with fail
        go_roundw
        case rel => exact ⟨j + 1, by omega, by go_num, by rw [HSTEP.out]; exact HF.out.1, HF.out.2.1, HF.out.2.2⟩
        case measure => simp [intOf]; omega
      by_cases d108 : c = 108
      · subst d108
        have HSTEP := hid (show acc ++ ((frm jk).data.toList.take (j + 1)).flatMap (pcX nm num ty fr lb (tmXL ts)) = (acc ++ ((frm jk).data.toList.take j).flatMap (pcX nm num ty fr lb (tmXL ts))) ++ Lib.itoa lb by rw [HTK.out, flat_snoc]; simp [pcX])
        have hrg := HLB.out (by have := (HSG.out 108 hcm).2.2.2.2.2.2.2 rfl; omega)
        have HL1 := hid (show ((acc ++ ((frm jk).data.toList.take j).flatMap (pcX nm num ty fr lb (tmXL ts))) ++ Lib.itoa lb).length ≤ 1099511000000 by rw [← HSTEP.out]; exact HLQ.out)
        go_wp2_with fail
        refine (itoaAny lb (by omega) (by omega) _ ((HTAB.out.on HB0.out).on HBR.out).here).mono ?_
        rintro e wy ⟨rfl, kq, os, rfl⟩
        have hby := Lib.below_grow (B := wr.heap.size) wr (Nat.le_refl _) kq os
        have hI1 := isb_below hI hby hbr
        have hky : Lib.OthersKept 5 (some b) wr (Sort.grow (wr.drewN kq) os) := okept_below hby
        have hB1r : B ≤ (Sort.grow (wr.drewN kq) os).heap.size := Nat.le_trans hBr hby.size
        have hbB' : Below B wr (Sort.grow (wr.drewN kq) os) := hby.mono hBr
        generalize Sort.grow (wr.drewN kq) os = wy at *
        go_wp2_with fail
        refine (writeS B b _ (Lib.itoa lb) _ hI1 (by have := HL1.out; simp only [List.length_append] at this ⊢; omega) hB1r).mono ?_
        rintro e wz ⟨⟨r9, rfl⟩, hi, hbz, hkz⟩
        replace hbz := hbB'.trans hbz
        replace hkz := hky.trans hkz
        clear hby hI1 hky hB1r hbB' hI
        have HF := hid (And.intro hi (And.intro (HBR.out.trans hbz) (HKR.out.trans hkz)))
        clear hi hbz hkz
        go_wp2_with fail
        go_roundw
        case rel => exact ⟨j + 1, by omega, by go_num, by rw [HSTEP.out]; exact HF.out.1, HF.out.2.1, HF.out.2.2⟩
        case measure => simp [intOf]; omega
      have HSTEP := hid (show acc ++ ((frm jk).data.toList.take (j + 1)).flatMap (pcX nm num ty fr lb (tmXL ts)) = (acc ++ ((frm jk).data.toList.take j).flatMap (pcX nm num ty fr lb (tmXL ts))) ++ [c] by rw [HTK.out, flat_snoc]; simp [pcX, d65, d66, d67, d110, d100, d116, d115, d108])
      have HL1 := hid (show ((acc ++ ((frm jk).data.toList.take j).flatMap (pcX nm num ty fr lb (tmXL ts))) ++ [c]).length ≤ 1099511000000 by rw [← HSTEP.out]; exact HLQ.out)
      have HW := hid (write1 B b _ c _ hI (by have := HL1.out; simp only [List.length_append] at this ⊢; omega) hBr)
      have en : ∀ n : UInt8, c ≠ n → ((c.toNat : Int) == (n.toNat : Int)) = false := fun n h => by
        simp only [beq_eq_false_iff_ne, ne_eq, Int.natCast_inj]
        exact fun e => h (UInt8.toNat_inj.1 e)
      have x65 : ((c.toNat : Int) == 65) = false := en 65 d65
      have x66 : ((c.toNat : Int) == 66) = false := en 66 d66
      have x67 : ((c.toNat : Int) == 67) = false := en 67 d67
      have x110 : ((c.toNat : Int) == 110) = false := en 110 d110
      have x100 : ((c.toNat : Int) == 100) = false := en 100 d100
      have x116 : ((c.toNat : Int) == 116) = false := en 116 d116
      have x115 : ((c.toNat : Int) == 115) = false := en 115 d115
      have x108 : ((c.toNat : Int) == 108) = false := en 108 d108
      clear en d65 d66 d67 d110 d100 d116 d115 d108
      go_wp2_with fail
      refine HW.out.mono ?_
      rintro e wz ⟨rfl, hi, hbz, hkz⟩
      have HF := hid (And.intro hi (And.intro (HBR.out.trans hbz) (HKR.out.trans hkz)))
      clear hi hbz hkz
      go_wp2_with fail
      go_roundw
      case rel => exact ⟨j + 1, by omega, by go_num, by rw [HSTEP.out]; exact HF.out.1, HF.out.2.1, HF.out.2.2⟩
      case measure => simp [intOf]; omega
    · have hz : (frm jk).data.toList.take j = (frm jk).data.toList := List.take_of_length_le (by rw [hfl]; omega)
      have HFIN := hid (show Lib.IsBuilderF 83 5 B b (Lib.byteCells (acc ++ tmX (.mk (jk : Int) nm num ty fr lb ts))) wr by rw [HTX.out, ← hz]; exact hI)
      clear hI hz
      go_wp2_with fail
      first | go_ret | go_end0
      exact ⟨⟨_, rfl⟩, HFIN.out, HB0.out.trans HBR.out, HK1.out.trans HKR.out⟩

theorem writeTerm_any : ∀ t : Tm, WmC t := Tm.ind writeTerm_of
end Go.Proofs.YtgekfnodmgkdaaaDoor

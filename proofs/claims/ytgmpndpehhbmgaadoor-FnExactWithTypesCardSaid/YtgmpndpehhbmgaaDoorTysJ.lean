/- The program's TermTypes: eachType and TermTypes. -/
import Derived.Test.YtgmpndpehhbmgaaDoorTysI
namespace Go.Proofs.YtgmpndpehhbmgaaDoor
open Go.RowKit

def EtC (t : Tm) : Prop := ∀ (M B : Nat) (ds : List Ty) (v : Value) (tv : Value) (fp : List Nat) (d : Nat) (w : World), ListAt M B ds v w → Forms w → 0 < M → t.At w tv fp → (∀ x ∈ fp, x < M) → shpM d t = true → B ≤ w.heap.size → t.sz ≤ 1048576 → ds.length + (tysOf t).length ≤ 4194303 →
  Calls Tryd.prog 108 #[tv, .func (.func 109) #[] #[.pointer (some ⟨M, 0, none⟩)]] w fun e w' => (∃ r, e = .returned r) ∧ ∃ v', ListAt M B (ds ++ tysOf t) v' w' ∧ Lr M w w' v v'

theorem forms_below {M : Nat} {w w' : World} (h : Forms w) (hb : Below M w w') (hM : 0 < M) : Forms w' := fun j hj => (hb.cell (p := ⟨0, j, none⟩) hM).trans (h j hj)

set_option linter.unusedSimpArgs false in
set_option linter.unusedSimpArgs false in
set_option linter.unusedSimpArgs false in
set_option maxRecDepth 100000 in
set_option maxHeartbeats 4000000 in
theorem eachType_of (k : Int) (nm : ByteArray) (num : Int) (ty fr : Ty) (lb : Int) (ts : List Tm) (ih : ∀ t ∈ ts, EtC t) : EtC (.mk k nm num ty fr lb ts) := by
  intro M B ds v tv fp d w hL hF hM0 hat hlt hsh hBw hsz hlen
  have HIH := hid ih
  clear ih
  cases d with
  | zero => simp [shpM] at hsh
  | succ d =>
    rw [shpM_node, Bool.and_eq_true] at hsh
    obtain ⟨hnode, hkids⟩ := hsh
    have hk : 1 ≤ k ∧ k ≤ 13 := by
      by_cases hk : 1 ≤ k ∧ k ≤ 13
      · exact hk
      · rw [nodeB_low hk] at hnode; cases hnode
    obtain ⟨jk, rfl⟩ : ∃ j : Nat, k = (j : Int) := ⟨k.toNat, by omega⟩
    have hj1 : 1 ≤ jk := by omega
    have hj2 : jk < 14 := by omega
    have hshow := (frm_shows jk hj1 hj2).2.2
    have hty : (jk = 5 ∨ jk = 13) → wf ty := fun h => by
      rw [nodeB_eq jk hj1 hj2, hshow] at hnode
      simp only [Bool.and_eq_true] at hnode
      have := hnode.1.1.2
      rw [if_pos (by simpa using h)] at this
      exact wf_of_vld this
    have HTY := hid hty
    have HKD := hid hkids
    obtain ⟨k1, n1, a1, c1, k2, n2, a2, c2, a3, c3, f1, f2, f3, rfl, hnm, ht1, ht2, rfl, hs⟩ := hat.parts
    have hb0 : Below w.heap.size w (w.alloc (Obj.cells #[.int .i64 (jk : Int), .string nm, .int .i64 num, .int .i64 k1, .slice a1 n1 c1, .int .i64 k2, .slice a2 n2 c2, .int .i64 lb, .slice a3 ts.length c3] 40)) := (Below.refl _ _).alloc (Nat.le_refl _) _
    have hform : ((w.alloc (Obj.cells #[.int .i64 (jk : Int), .string nm, .int .i64 num, .int .i64 k1, .slice a1 n1 c1, .int .i64 k2, .slice a2 n2 c2, .int .i64 lb, .slice a3 ts.length c3] 40))).cell? ⟨0, jk, none⟩ = some (.string (frm jk)) := cell_keep (hF jk hj2) hb0
    have HSHOW := hid hshow
    clear hshow
    generalize frm jk = form at *
    obtain ⟨a, cap, hss, hc, hm, hget⟩ := hs.open
    cases hss
    have HS3 := hid (show ∀ x ∈ f3, x < M from fun x hx => hlt x (by simp [hx]))
    have hblk : ∀ b o, a3 = some ⟨b, o, none⟩ → 0 < ts.length → b ∈ f3 := fun b o e hp => by
      rcases hs with ⟨h0, _⟩ | ⟨b', o', cap', f, e', _, _, _, _, rfl⟩
      · rw [h0] at hp; simp at hp
      · rw [e] at e'
        cases e'
        simp
    have HBK := hid hblk
    have HG := hid hget
    have HSZ := hid (show ts.length + szML ts ≤ 1048576 by simp only [Tm.sz] at hsz; omega)
    obtain ⟨g, hO, hGr, hMB⟩ := hL
    have HOWN := hid hGr.own_ge
    have HMB := hid hMB
    have HL := hid (show ListAt M B ds v w from ⟨g, hO, hGr, hMB⟩)
    have hMlt : M < w.heap.size := by omega
    have hMo : some w.heap.size ≠ v.ownBlock := fun e => by have := (HOWN.out _ e.symm).2; omega
    have HMO := hid hMo
    have hlt1 : ∀ x ∈ f1, x < M := fun x hx => hlt x (by simp [hx])
    obtain ⟨x0, x1, x2, x3, x4, x5, x6, x7, x8⟩ := box9 (Below.refl ((w.alloc (Obj.cells #[.int .i64 (jk : Int), .string nm, .int .i64 num, .int .i64 k1, .slice a1 n1 c1, .int .i64 k2, .slice a2 n2 c2, .int .i64 lb, .slice a3 ts.length c3] 40))).heap.size (w.alloc (Obj.cells #[.int .i64 (jk : Int), .string nm, .int .i64 num, .int .i64 k1, .slice a1 n1 c1, .int .i64 k2, .slice a2 n2 c2, .int .i64 lb, .slice a3 ts.length c3] 40)))
    clear hget hsz hblk hs hO hGr hMB hMo hlt hnode hkids hty hat
    by_cases hj : jk = 5 ∨ jk = 13
    · have hsb : showsB form 116 = true := by rw [HSHOW.out]; simpa using hj
      have HTYS := hid (show ds ++ tysOf (.mk (jk : Int) nm num ty fr lb ts) = (ds ++ [ty]) ++ tysL ts by
        have : (jk : Int) = 5 ∨ (jk : Int) = 13 := by omega
        simp only [tysOf, if_pos this, List.append_assoc])
      have HLEN := hid (show (ds ++ [ty]).length + (tysL ts).length ≤ 4194303 by
        have : (jk : Int) = 5 ∨ (jk : Int) = 13 := by omega
        simp only [tysOf, if_pos this, List.length_append, List.length_cons, List.length_nil] at hlen ⊢
        omega)
      have HWF := hid (HTY.out hj)
      have hdl : ds.length ≤ 4194303 := by omega
      clear hlen hj
      go_enter Tryd.func108, Tryd.ntmps108
      go_wp2_with fail
      refine (shows_any form 116 _).mono ?_
      rw [hsb]
      rintro e w1 ⟨rfl, rfl⟩
      go_wp2_with fail
      refine (visit_any M B ds v ty _ f1 _ (HL.out.below hb0) (ht1.below hb0) HWF.out (Nat.le_trans hBw hb0.size) hdl).mono ?_
      rintro e w2 ⟨⟨r2, rfl⟩, v2, hL2, hr2⟩
      have HL2 := hid hL2
      have HR2 := hid hr2
      have hbx := hr2.heap (k := w.heap.size) (alloc_new _ _) (by omega) HMO.out
      clear hL2 hr2 x0 x1 x2 x3 x4 x5 x6 x7 x8
      obtain ⟨x0, x1, x2, x3, x4, x5, x6, x7, x8⟩ := cells9 hbx
      clear hbx
      go_wp2_with fail
      go_loopw [18] (fun i wr => ∃ (j : Nat) (v' : Value), j ≤ ts.length ∧ i = .int .i64 j ∧ ListAt M B ((ds ++ [ty]) ++ tysL (ts.take j)) v' wr ∧ Lr M (w.alloc (Obj.cells #[.int .i64 (jk : Int), .string nm, .int .i64 num, .int .i64 k1, .slice a1 n1 c1, .int .i64 k2, .slice a2 n2 c2, .int .i64 lb, .slice a3 ts.length c3] 40)) wr v v') (fun i _ => ts.length - (intOf i).toNat)
      case atStart => exact ⟨0, _, Nat.zero_le _, rfl, by simpa [tysL] using HL2.out, HR2.out⟩
      case round =>
        obtain ⟨j, v', hj, rfl, hL4, hr4⟩ := hrel
        have hbl := hr4.below HMB.out (Nat.le_trans hBw hb0.size) (fun b hb => (HOWN.out b hb).1)
        have hBr : B ≤ wr.heap.size := Nat.le_trans (Nat.le_trans hBw hb0.size) hr4.1.2.2.2
        have HL4 := hid hL4
        have HR4 := hid hr4
        have HBL := hid hbl
        clear hL4 hr4 hbl
        by_cases hlk : j < ts.length
        · obtain ⟨b, o, q0, q1, q2, q3, q4, q5, q6, q7, q8, q9, q10, q11, q12, q13, q14, g1, hab, hblt, e0, e1, e2, e3, e4, e5, e6, e7, e8, hat, hf⟩ := HG.out j hlk
          have hbM : b < M := HS3.out b (HBK.out b o hab (by omega))
          subst hab
          have hgM : ∀ x ∈ g1, x < M := fun x hx => HS3.out x (hf x hx)
          have hat' : Tm.At wr ts[j] _ g1 := (hat.below hb0).congr fun x hx o' => HBL.out.cell (p := ⟨x, o', none⟩) (hgM x hx)
          replace e0 := (HBL.out.cell (p := ⟨b, o + j * 9, none⟩) hbM).trans (cell_keep e0 hb0)
          replace e1 := (HBL.out.cell (p := ⟨b, o + j * 9 + 1, none⟩) hbM).trans (cell_keep e1 hb0)
          replace e2 := (HBL.out.cell (p := ⟨b, o + j * 9 + 2, none⟩) hbM).trans (cell_keep e2 hb0)
          replace e3 := (HBL.out.cell (p := ⟨b, o + j * 9 + 3, none⟩) hbM).trans (cell_keep e3 hb0)
          replace e4 := (HBL.out.cell (p := ⟨b, o + j * 9 + 4, none⟩) hbM).trans (cell_keep e4 hb0)
          replace e5 := (HBL.out.cell (p := ⟨b, o + j * 9 + 5, none⟩) hbM).trans (cell_keep e5 hb0)
          replace e6 := (HBL.out.cell (p := ⟨b, o + j * 9 + 6, none⟩) hbM).trans (cell_keep e6 hb0)
          replace e7 := (HBL.out.cell (p := ⟨b, o + j * 9 + 7, none⟩) hbM).trans (cell_keep e7 hb0)
          replace e8 := (HBL.out.cell (p := ⟨b, o + j * 9 + 8, none⟩) hbM).trans (cell_keep e8 hb0)
          have htk := tysL_take hlk
          have hl1 := tysL_take_len ts (j + 1)
          have hl2 : ((ds ++ [ty]) ++ tysL (ts.take j)).length + (tysOf ts[j]).length ≤ 4194303 := by
            rw [htk] at hl1
            have := HLEN.out
            simp only [List.length_append, List.length_cons, List.length_nil] at hl1 this ⊢
            omega
          have hszj : ts[j].sz ≤ 1048576 := by have := HSZ.out; have := sz_mem (List.getElem_mem hlk); omega
          have hshj : shpM d ts[j] = true := by have := List.all_eq_true.1 HKD.out _ (List.getElem_mem hlk); exact this
          have HTK := hid htk
          have HX := hid (show Forms wr from forms_below (hF.below hb0) HBL.out hM0)
          have hkb : ∀ oo : Obj, Below wr.heap.size wr (wr.alloc oo) := fun _ => (Below.refl _ _).alloc (Nat.le_refl _) _
          have HGM := hid hgM
          clear hl1 htk hat hf hgM
          go_wp2_with fail
          refine (HIH.out _ (List.getElem_mem hlk) M B _ v' _ g1 d _ (HL4.out.below (hkb _)) (HX.out.below (hkb _)) hM0 (hat'.below (hkb _)) HGM.out hshj (Nat.le_trans hBr (hkb _).size) hszj hl2).mono ?_
          rintro e w4 ⟨⟨r4, rfl⟩, v5, hL5, hr5⟩
          have HL5 := hid hL5
          have HR5 := hid ((HR4.out.trans (Lr.of_below (hkb _) v')).trans hr5)
          clear hL5 hr5 e0 e1 e2 e3 e4 e5 e6 e7 e8 hat'
          go_wp2_with fail
          go_roundw
          case rel => exact ⟨j + 1, v5, by omega, by go_num, by rw [HTK.out, ← List.append_assoc]; exact HL5.out, HR5.out⟩
          case measure => simp [intOf]; omega
        · have hz : ts.take j = ts := List.take_of_length_le (by omega)
          have HZ := hid hz
          clear hz
          go_wp2_with fail
          first | go_ret | go_end0
          refine ⟨⟨_, rfl⟩, v', ?_, (Lr.of_below hb0 v).trans HR4.out⟩
          have := HL4.out
          rw [HZ.out] at this
          rw [HTYS.out]
          exact this
    · have hsb : showsB form 116 = false := by rw [HSHOW.out]; simpa using hj
      have HTYS := hid (show ds ++ tysOf (.mk (jk : Int) nm num ty fr lb ts) = ds ++ tysL ts by
        have : ¬ ((jk : Int) = 5 ∨ (jk : Int) = 13) := by omega
        simp only [tysOf, if_neg this, List.nil_append])
      have HLEN := hid (show ds.length + (tysL ts).length ≤ 4194303 by
        have : ¬ ((jk : Int) = 5 ∨ (jk : Int) = 13) := by omega
        simp only [tysOf, if_neg this, List.nil_append] at hlen
        omega)
      have HL2 := hid (HL.out.below hb0)
      have HR2 := hid (Lr.of_below (M := M) (Below.refl ((w.alloc (Obj.cells #[.int .i64 (jk : Int), .string nm, .int .i64 num, .int .i64 k1, .slice a1 n1 c1, .int .i64 k2, .slice a2 n2 c2, .int .i64 lb, .slice a3 ts.length c3] 40))).heap.size (w.alloc (Obj.cells #[.int .i64 (jk : Int), .string nm, .int .i64 num, .int .i64 k1, .slice a1 n1 c1, .int .i64 k2, .slice a2 n2 c2, .int .i64 lb, .slice a3 ts.length c3] 40))) v)
      clear hlen hj
      go_enter Tryd.func108, Tryd.ntmps108
      go_wp2_with fail
      refine (shows_any form 116 _).mono ?_
      rw [hsb]
      rintro e w1 ⟨rfl, rfl⟩
      go_wp2_with fail
      go_loopw [18] (fun i wr => ∃ (j : Nat) (v' : Value), j ≤ ts.length ∧ i = .int .i64 j ∧ ListAt M B (ds ++ tysL (ts.take j)) v' wr ∧ Lr M (w.alloc (Obj.cells #[.int .i64 (jk : Int), .string nm, .int .i64 num, .int .i64 k1, .slice a1 n1 c1, .int .i64 k2, .slice a2 n2 c2, .int .i64 lb, .slice a3 ts.length c3] 40)) wr v v') (fun i _ => ts.length - (intOf i).toNat)
      case atStart => exact ⟨0, _, Nat.zero_le _, rfl, by simpa [tysL] using HL2.out, HR2.out⟩
      case round =>
        obtain ⟨j, v', hj, rfl, hL4, hr4⟩ := hrel
        have hbl := hr4.below HMB.out (Nat.le_trans hBw hb0.size) (fun b hb => (HOWN.out b hb).1)
        have hBr : B ≤ wr.heap.size := Nat.le_trans (Nat.le_trans hBw hb0.size) hr4.1.2.2.2
        have HL4 := hid hL4
        have HR4 := hid hr4
        have HBL := hid hbl
        clear hL4 hr4 hbl
        by_cases hlk : j < ts.length
        · obtain ⟨b, o, q0, q1, q2, q3, q4, q5, q6, q7, q8, q9, q10, q11, q12, q13, q14, g1, hab, hblt, e0, e1, e2, e3, e4, e5, e6, e7, e8, hat, hf⟩ := HG.out j hlk
          have hbM : b < M := HS3.out b (HBK.out b o hab (by omega))
          subst hab
          have hgM : ∀ x ∈ g1, x < M := fun x hx => HS3.out x (hf x hx)
          have hat' : Tm.At wr ts[j] _ g1 := (hat.below hb0).congr fun x hx o' => HBL.out.cell (p := ⟨x, o', none⟩) (hgM x hx)
          replace e0 := (HBL.out.cell (p := ⟨b, o + j * 9, none⟩) hbM).trans (cell_keep e0 hb0)
          replace e1 := (HBL.out.cell (p := ⟨b, o + j * 9 + 1, none⟩) hbM).trans (cell_keep e1 hb0)
          replace e2 := (HBL.out.cell (p := ⟨b, o + j * 9 + 2, none⟩) hbM).trans (cell_keep e2 hb0)
          replace e3 := (HBL.out.cell (p := ⟨b, o + j * 9 + 3, none⟩) hbM).trans (cell_keep e3 hb0)
          replace e4 := (HBL.out.cell (p := ⟨b, o + j * 9 + 4, none⟩) hbM).trans (cell_keep e4 hb0)
          replace e5 := (HBL.out.cell (p := ⟨b, o + j * 9 + 5, none⟩) hbM).trans (cell_keep e5 hb0)
          replace e6 := (HBL.out.cell (p := ⟨b, o + j * 9 + 6, none⟩) hbM).trans (cell_keep e6 hb0)
          replace e7 := (HBL.out.cell (p := ⟨b, o + j * 9 + 7, none⟩) hbM).trans (cell_keep e7 hb0)
          replace e8 := (HBL.out.cell (p := ⟨b, o + j * 9 + 8, none⟩) hbM).trans (cell_keep e8 hb0)
          have htk := tysL_take hlk
          have hl1 := tysL_take_len ts (j + 1)
          have hl2 : (ds ++ tysL (ts.take j)).length + (tysOf ts[j]).length ≤ 4194303 := by
            rw [htk] at hl1
            have := HLEN.out
            simp only [List.length_append, List.length_cons, List.length_nil] at hl1 this ⊢
            omega
          have hszj : ts[j].sz ≤ 1048576 := by have := HSZ.out; have := sz_mem (List.getElem_mem hlk); omega
          have hshj : shpM d ts[j] = true := by have := List.all_eq_true.1 HKD.out _ (List.getElem_mem hlk); exact this
          have HTK := hid htk
          have HX := hid (show Forms wr from forms_below (hF.below hb0) HBL.out hM0)
          have hkb : ∀ oo : Obj, Below wr.heap.size wr (wr.alloc oo) := fun _ => (Below.refl _ _).alloc (Nat.le_refl _) _
          have HGM := hid hgM
          clear hl1 htk hat hf hgM
          go_wp2_with fail
          refine (HIH.out _ (List.getElem_mem hlk) M B _ v' _ g1 d _ (HL4.out.below (hkb _)) (HX.out.below (hkb _)) hM0 (hat'.below (hkb _)) HGM.out hshj (Nat.le_trans hBr (hkb _).size) hszj hl2).mono ?_
          rintro e w4 ⟨⟨r4, rfl⟩, v5, hL5, hr5⟩
          have HL5 := hid hL5
          have HR5 := hid ((HR4.out.trans (Lr.of_below (hkb _) v')).trans hr5)
          clear hL5 hr5 e0 e1 e2 e3 e4 e5 e6 e7 e8 hat'
          go_wp2_with fail
          go_roundw
          case rel => exact ⟨j + 1, v5, by omega, by go_num, by rw [HTK.out, ← List.append_assoc]; exact HL5.out, HR5.out⟩
          case measure => simp [intOf]; omega
        · have hz : ts.take j = ts := List.take_of_length_le (by omega)
          have HZ := hid hz
          clear hz
          go_wp2_with fail
          first | go_ret | go_end0
          refine ⟨⟨_, rfl⟩, v', ?_, (Lr.of_below hb0 v).trans HR4.out⟩
          have := HL4.out
          rw [HZ.out] at this
          rw [HTYS.out]
          exact this

theorem eachType_any : ∀ t : Tm, EtC t := Tm.ind eachType_of
end Go.Proofs.YtgmpndpehhbmgaaDoor

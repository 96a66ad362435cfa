/- The specification's l2Text: the text of a term. -/
import Derived.Test.YtgekfnodmgkdaaaDoorXtC
namespace Go.Proofs.YtgekfnodmgkdaaaDoor
open Go.RowKit

theorem grown_lowS {B : Nat} {w w1 w3 : World} {v : Value} {o : Obj} (hb : Below B w w1) (hB : B ≤ w1.heap.size) (ho : ∀ b, v.ownBlock = some b → B ≤ b) (hg : (w1.alloc o).grownBy w3 v.ownBlock) : Below B w w3 := by
  have h1 : Below B w1 (w1.alloc o) := (Below.refl _ _).alloc hB _
  refine (hb.trans h1).trans ⟨hg.os, hg.tape, hg.output, hg.size, fun k hk => hg.block k (by simp; omega) (fun e => by have := ho k e.symm; omega)⟩

def L2C (t : Tm) : Prop := ∀ (d : Nat) (v : Value) (fp : List Nat) (w : World), t.At w v fp → xOk d t = true → t.sz ≤ 1048576 → Calls Tryd.prog 156 #[v] w fun e w' => e = .returned (.string ⟨(tmX t).toArray⟩) ∧ Below w.heap.size w w'

set_option linter.unusedSimpArgs false in
set_option linter.unusedVariables false in
set_option maxRecDepth 100000 in
set_option maxHeartbeats 8000000 in
theorem l2Text_of (k : Int) (nm : ByteArray) (num : Int) (ty fr : Ty) (lb : Int) (ts : List Tm) (ih : ∀ t ∈ ts, L2C t) : L2C (.mk k nm num ty fr lb ts) := by
  intro d v fp w hat hok hsz
  have HIH := hid ih
  clear ih
  obtain ⟨hk, hkid, hty, hfr, hnum, hlb, hnm1, d', hts⟩ := xOk_node hok
  have hat0 := hat
  obtain ⟨k1, n1, a1, c1, k2, n2, a2, c2, a3, c3, f1, f2, f3, rfl, hnm, ht1, ht2, rfl, hs⟩ := hat.parts
  obtain ⟨aa, cap, hss, hc, hm, hget⟩ := hs.open
  cases hss
  have HG := hid hget
  have hb0 : Below w.heap.size w (w.alloc (Obj.cells #[.int .i64 k, .string nm, .int .i64 num, .int .i64 k1, .slice a1 n1 c1, .int .i64 k2, .slice a2 n2 c2, .int .i64 lb, .slice a3 ts.length c3] 35)) := (Below.refl _ _).alloc (Nat.le_refl _) _
  have hs0 : (w.alloc (Obj.cells #[.int .i64 k, .string nm, .int .i64 num, .int .i64 k1, .slice a1 n1 c1, .int .i64 k2, .slice a2 n2 c2, .int .i64 lb, .slice a3 ts.length c3] 35)).heap.size = w.heap.size + 1 := by simp
  have HK := hid (And.intro hk hkid)
  have HTY := hid hty
  have HFR := hid hfr
  have HNUM := hid hnum
  have HLB := hid hlb
  have HNM := hid hnm1
  have HTS := hid hts
  have hlen3 : ts.length ≤ 3 := by
    have := hkid
    unfold kidsM at this
    repeat' split at this
    all_goals omega
  have HSZ := hid (show ts.length + szML ts ≤ 1048576 by simp only [Tm.sz] at hsz; omega)
  have HLN := hid (show ∀ t ∈ ts, (⟨(tmX t).toArray⟩ : ByteArray).size ≤ 300 * 1048578 from fun t ht => by
    have h1 := tmX_len t d' (hts t ht)
    have h2 := sz_mem ht
    have h3 := HSZ.out
    show (tmX t).length ≤ _
    omega)
  obtain ⟨i0, hi0, hz0, hz1, hz2⟩ := info_parts (P := Tryd.prog) (e := 9) Tryd.infoStr
  have HB0 := hid hb0
  have HA0 := hid hat0
  have HT1 := hid ht1
  have hbn : Below (w.heap.size + 1) (w.alloc (Obj.cells #[.int .i64 k, .string nm, .int .i64 num, .int .i64 k1, .slice a1 n1 c1, .int .i64 k2, .slice a2 n2 c2, .int .i64 lb, .slice a3 ts.length c3] 35)) ((w.alloc (Obj.cells #[.int .i64 k, .string nm, .int .i64 num, .int .i64 k1, .slice a1 n1 c1, .int .i64 k2, .slice a2 n2 c2, .int .i64 lb, .slice a3 ts.length c3] 35)).alloc (Obj.cells #[] 9)) := (Below.refl _ _).alloc (by simp) _
  have HN := hid (GrowS.new (B := w.heap.size + 1) (w := w.alloc (Obj.cells #[.int .i64 k, .string nm, .int .i64 num, .int .i64 k1, .slice a1 n1 c1, .int .i64 k2, .slice a2 n2 c2, .int .i64 lb, .slice a3 ts.length c3] 35)) (by simp))
  rw [hs0] at HN
  obtain ⟨y0, y1, y2, y3, y4, y5, y6, y7, y8⟩ := box9 (Below.refl (w.alloc (Obj.cells #[.int .i64 k, .string nm, .int .i64 num, .int .i64 k1, .slice a1 n1 c1, .int .i64 k2, .slice a2 n2 c2, .int .i64 lb, .slice a3 ts.length c3] 35)).heap.size (w.alloc (Obj.cells #[.int .i64 k, .string nm, .int .i64 num, .int .i64 k1, .slice a1 n1 c1, .int .i64 k2, .slice a2 n2 c2, .int .i64 lb, .slice a3 ts.length c3] 35)))
  clear hat hat0 ht1 ht2 hs hget hok hsz hk hkid hty hfr hnum hlb hnm1 hts hb0
  go_enter Tryd.func156, Tryd.ntmps156
  go_wp2_with fail
  go_loopw [3, 4] (fun kd i wr => ∃ (j : Nat) (a : Option Addr) (c : Nat), j ≤ ts.length ∧ i = .int .i64 j ∧ kd = .slice a j c ∧ GrowS (w.heap.size + 1) (tmXL (ts.take j)) (.slice a j c) wr ∧ Below (w.heap.size + 1) (w.alloc (Obj.cells #[.int .i64 k, .string nm, .int .i64 num, .int .i64 k1, .slice a1 n1 c1, .int .i64 k2, .slice a2 n2 c2, .int .i64 lb, .slice a3 ts.length c3] 35)) wr) (fun _ i _ => ts.length - (intOf i).toNat)
  case atStart => exact ⟨0, _, _, Nat.zero_le _, rfl, rfl, by simpa [tmXL] using HN.out, hbn⟩
  case round =>
    obtain ⟨j, av', capv', hj, rfl, rfl, hGk, hbr⟩ := hrel
    have HGK := hid hGk
    have HBR := hid hbr
    have hbx := hbr
    rw [← hs0] at hbx
    obtain ⟨z0, z1, z2, z3, z4, z5, z6, z7, z8⟩ := box9 hbx
    have HBB := hid (below_trans HB0.out hbx)
    have hws : w.heap.size + 1 ≤ wr.heap.size := by have := hbr.size; simp at this; omega
    clear hGk hbr hbx y0 y1 y2 y3 y4 y5 y6 y7 y8
    by_cases hlk : j < ts.length
    · obtain ⟨b, o, q0, q1, q2, q3, q4, q5, q6, q7, q8, q9, q10, q11, q12, q13, q14, g1, hab, hblt, e0, e1, e2, e3, e4, e5, e6, e7, e8, hat, hf⟩ := HG.out j hlk
      subst hab
      have HAT := hid (hat.below HBB.out)
      replace e0 := cell_keep e0 HBB.out
      replace e1 := cell_keep e1 HBB.out
      replace e2 := cell_keep e2 HBB.out
      replace e3 := cell_keep e3 HBB.out
      replace e4 := cell_keep e4 HBB.out
      replace e5 := cell_keep e5 HBB.out
      replace e6 := cell_keep e6 HBB.out
      replace e7 := cell_keep e7 HBB.out
      replace e8 := cell_keep e8 HBB.out
      have HTK := hid (tmXL_take ts j hlk)
      have hszj : ts[j].sz ≤ 1048576 := by have := HSZ.out; have := sz_mem (List.getElem_mem hlk); omega
      have HCALL := hid (HIH.out _ (List.getElem_mem hlk) d' _ _ _ HAT.out (HTS.out _ (List.getElem_mem hlk)) hszj)
      have HLJ := hid (HLN.out _ (List.getElem_mem hlk))
      obtain ⟨S, hS⟩ : ∃ S : ByteArray, S = ⟨(tmX ts[j]).toArray⟩ := ⟨_, rfl⟩
      have HS := hid hS
      rw [← hS] at HCALL HLJ
      have hmj : (tmXL (ts.take j)).length = j := by rw [tmXL_len, List.length_take]; omega
      clear hat hf hszj hS
      go_wp2_with fail
      refine HCALL.out.mono ?_
      rintro e w4 ⟨rfl, hb4⟩
      have HGN := hid (show w4.ownsRow (w.heap.size + 1) 9 1 (.slice av' j capv') j ((tmXL (ts.take j)).map strV) by have := HGK.out.below hb4; unfold GrowS at this; rwa [hmj] at this)
      have HB4 := hid (HBR.out.trans (hb4.mono hws))
      have hws4 : w.heap.size + 1 ≤ w4.heap.size := Nat.le_trans hws hb4.size
      clear hb4 e0 e1 e2 e3 e4 e5 e6 e7 e8 z0 z1 z2 z3 z4 z5 z6 z7 z8
      go_wp2_with (refine wpList_append_lies _ rfl (.tmp 13) (.tmp 20) 205 rfl (w.heap.size + 1) 9 i0 _ 1 16 Tryd.underStrs hi0 hz0 hz1 hz2 rfl (by omega) (.slice av' j capv') j ((tmXL (ts.take j)).map strV) rfl (World.ownsRow.alloc HGN.out _) ⟨w4.heap.size, 0, none⟩ 1 1 [.string S] rfl rfl (World.news_of_block (cs := #[.string S]) (t := 9) (fr := (0, 0)) (heap_alloc_new w4 _)) (by simp [Value.oneCell']) (by omega) (by unfold maxLen; omega) (by omega) (by simp; omega) (w4.heap.size + 1) (by simp) ?_; intro g3 cp w5 hown3 hgrow hat3 hlt3)
      have HR := hid (GrowS.snoc (x := tmX ts[j]) (by rw [← HS.out]; exact hown3) (by rw [hmj]))
      have HB5 := hid (grown_lowS HB4.out hws4 (fun b hb => (HGN.out.lt b hb).1) hgrow)
      clear hown3 hgrow hat3 hlt3
      go_wp2_with fail
      go_roundw
      case rel => exact ⟨j + 1, _, _, by omega, by go_num, rfl, by rw [HTK.out]; exact HR.out, HB5.out⟩
      case measure => simp [intOf]; omega
    · have HF1 := hid (HT1.out.below HBB.out)
      have HAT := hid (HA0.out.below HBB.out)
      have HGR := hid (show GrowS (w.heap.size + 1) (tmXL ts) (.slice av' j capv') wr by have := HGK.out; rwa [List.take_of_length_le (by omega)] at this)
      clear HGK HN HG HIH HT1 HA0 hbn hc hm
      rcases kids_of HK.out.2 HK.out.1 with ⟨hq, rfl⟩ | ⟨hq, a, rfl⟩ | ⟨hq, a, b, rfl⟩ | ⟨rfl, a, b, c, rfl⟩
      · obtain rfl : j = 0 := by simp at hj; omega
        rcases hq with rfl | rfl | rfl | rfl
        ·
          go_wp2_with fail
          go_ret
          exact ⟨ret_s (by rw [tmX_1]), HBB.out⟩
        ·
          obtain ⟨u, rfl⟩ : ∃ u : Nat, num = (u : Int) := ⟨num.toNat, by have := HNUM.out rfl; omega⟩
          have hu : u ≤ 999 := by have := HNUM.out rfl; omega
          go_wp2_with fail
          refine (l18Dec_nat u (by omega) _).mono ?_
          rintro e w5 ⟨rfl, hb5⟩
          go_wp2_with fail
          go_ret
          exact ⟨ret_s (by rw [tmX_2, Lib.itoa_nonneg]), below_trans HBB.out hb5⟩
        ·
          go_wp2_with fail
          go_ret
          exact ⟨ret_s (by rw [tmX_3]), HBB.out⟩
        ·
          go_wp2_with fail
          go_ret
          exact ⟨ret_s (by rw [tmX_4]), HBB.out⟩
      · obtain rfl : j = 1 := by simp at hj hlk; omega
        rcases hq with rfl | rfl | rfl | rfl | rfl
        ·
          obtain ⟨g, rfl, hgl, -, hgc⟩ := HGR.out.cells (by simp [tmXL])
          obtain ⟨S0, hS0⟩ : ∃ S : ByteArray, S = ⟨(tmX a).toArray⟩ := ⟨_, rfl⟩
          have cc0 : wr.cell? ⟨g, 0, none⟩ = some (.string S0) := by rw [hS0]; exact hgc 0 (tmX a) rfl
          have l0 : S0.size ≤ 300 * 1048578 := by rw [hS0]; exact HLN.out a (by simp)
          have HS0 := hid hS0
          clear hS0
          clear hgc
          obtain ⟨ST, hST⟩ : ∃ S : ByteArray, S = ⟨(txt 4 ty).toArray⟩ := ⟨_, rfl⟩
          have lt : ST.size ≤ 64 := by rw [hST]; exact txt_le 4 ty (Nat.le_refl _)
          have HST := hid hST
          clear hST
          have hnm1 : nm.size ≤ 1 := Nat.le_of_eq (HNM.out (.inr rfl))
          have q0 : ¬ (9223372036854775807 < 1 + nm.size) := by omega
          have q1 : ¬ (9223372036854775807 < 1 + nm.size + 1) := by omega
          have q2 : ¬ (9223372036854775807 < 1 + nm.size + 1 + ST.size) := by omega
          have q3 : ¬ (9223372036854775807 < 1 + nm.size + 1 + ST.size + 1) := by omega
          have q4 : ¬ (9223372036854775807 < 1 + nm.size + 1 + ST.size + 1 + S0.size) := by omega
          go_wp2_with fail
          go_region_held3 (fun w' => Below wr.heap.size wr w' ∧ w'.cell? ⟨w.heap.size, 0, none⟩ = some (.int .i64 5) ∧ w'.cell? ⟨w.heap.size, 1, none⟩ = some (.string nm) ∧ w'.cell? ⟨w.heap.size, 2, none⟩ = some (.int .i64 num) ∧ w'.cell? ⟨w.heap.size, 3, none⟩ = some (.int .i64 k1) ∧ w'.cell? ⟨w.heap.size, 4, none⟩ = some (.slice a1 n1 c1) ∧ w'.cell? ⟨w.heap.size, 5, none⟩ = some (.int .i64 k2) ∧ w'.cell? ⟨w.heap.size, 6, none⟩ = some (.slice a2 n2 c2) ∧ w'.cell? ⟨w.heap.size, 7, none⟩ = some (.int .i64 lb) ∧ w'.cell? ⟨w.heap.size, 8, none⟩ = some (.slice a3 [a].length c3) ∧ w'.cell? ⟨g, 0, none⟩ = some (.string S0))
            ((refine (fun hB => ⟨hB, cell_keep z0 hB, cell_keep z1 hB, cell_keep z2 hB, cell_keep z3 hB, cell_keep z4 hB, cell_keep z5 hB, cell_keep z6 hB, cell_keep z7 hB, cell_keep z8 hB, cell_keep cc0 hB⟩ : Below wr.heap.size wr _ → _) ?_; (first | exact below_drew _ | exact hk1)))
            (first | (go_at_call 197; refine (l1Text_any 4 ty _ f1 _ (Nat.le_refl _) (HTY.out (by simp)) (HF1.out.below (below_drew _))).mono ?_; rw [← HST.out]; rintro e w5 ⟨rfl, hy1⟩; have hk1 := below_trans (below_drew _) hy1))
          go_wp2_with fail
          go_ret
          refine ⟨ret_s ?_, below_trans HBB.out hk1⟩
          rw [tmX_5, HST.out]
          rw [HS0.out]
          apply ByteArray.ext
          simp [ByteArray.data_append]
        ·
          obtain ⟨g, rfl, hgl, -, hgc⟩ := HGR.out.cells (by simp [tmXL])
          obtain ⟨S0, hS0⟩ : ∃ S : ByteArray, S = ⟨(tmX a).toArray⟩ := ⟨_, rfl⟩
          have cc0 : wr.cell? ⟨g, 0, none⟩ = some (.string S0) := by rw [hS0]; exact hgc 0 (tmX a) rfl
          have l0 : S0.size ≤ 300 * 1048578 := by rw [hS0]; exact HLN.out a (by simp)
          have HS0 := hid hS0
          clear hS0
          clear hgc
          have q0 : ¬ (9223372036854775807 < 1 + S0.size) := by omega
          go_wp2_with fail
          go_ret
          refine ⟨ret_s ?_, HBB.out⟩
          rw [tmX_11]
          rw [HS0.out]
          apply ByteArray.ext
          simp [ByteArray.data_append]
        ·
          obtain ⟨g, rfl, hgl, -, hgc⟩ := HGR.out.cells (by simp [tmXL])
          obtain ⟨S0, hS0⟩ : ∃ S : ByteArray, S = ⟨(tmX a).toArray⟩ := ⟨_, rfl⟩
          have cc0 : wr.cell? ⟨g, 0, none⟩ = some (.string S0) := by rw [hS0]; exact hgc 0 (tmX a) rfl
          have l0 : S0.size ≤ 300 * 1048578 := by rw [hS0]; exact HLN.out a (by simp)
          have HS0 := hid hS0
          clear hS0
          clear hgc
          have q0 : ¬ (9223372036854775807 < 1 + S0.size) := by omega
          go_wp2_with fail
          go_ret
          refine ⟨ret_s ?_, HBB.out⟩
          rw [tmX_12]
          rw [HS0.out]
          apply ByteArray.ext
          simp [ByteArray.data_append]
        ·
          obtain ⟨g, rfl, hgl, -, hgc⟩ := HGR.out.cells (by simp [tmXL])
          obtain ⟨S0, hS0⟩ : ∃ S : ByteArray, S = ⟨(tmX a).toArray⟩ := ⟨_, rfl⟩
          have cc0 : wr.cell? ⟨g, 0, none⟩ = some (.string S0) := by rw [hS0]; exact hgc 0 (tmX a) rfl
          have l0 : S0.size ≤ 300 * 1048578 := by rw [hS0]; exact HLN.out a (by simp)
          have HS0 := hid hS0
          clear hS0
          clear hgc
          obtain ⟨ST, hST⟩ : ∃ S : ByteArray, S = ⟨(txt 4 ty).toArray⟩ := ⟨_, rfl⟩
          have lt : ST.size ≤ 64 := by rw [hST]; exact txt_le 4 ty (Nat.le_refl _)
          have HST := hid hST
          clear hST
          have q0 : ¬ (9223372036854775807 < 1 + S0.size) := by omega
          have q1 : ¬ (9223372036854775807 < 1 + S0.size + 1) := by omega
          have q2 : ¬ (9223372036854775807 < 1 + S0.size + 1 + ST.size) := by omega
          have q3 : ¬ (9223372036854775807 < 1 + S0.size + 1 + ST.size + 1) := by omega
          go_wp2_with fail
          go_region_held3 (fun w' => Below wr.heap.size wr w' ∧ w'.cell? ⟨w.heap.size, 0, none⟩ = some (.int .i64 13) ∧ w'.cell? ⟨w.heap.size, 1, none⟩ = some (.string nm) ∧ w'.cell? ⟨w.heap.size, 2, none⟩ = some (.int .i64 num) ∧ w'.cell? ⟨w.heap.size, 3, none⟩ = some (.int .i64 k1) ∧ w'.cell? ⟨w.heap.size, 4, none⟩ = some (.slice a1 n1 c1) ∧ w'.cell? ⟨w.heap.size, 5, none⟩ = some (.int .i64 k2) ∧ w'.cell? ⟨w.heap.size, 6, none⟩ = some (.slice a2 n2 c2) ∧ w'.cell? ⟨w.heap.size, 7, none⟩ = some (.int .i64 lb) ∧ w'.cell? ⟨w.heap.size, 8, none⟩ = some (.slice a3 [a].length c3) ∧ w'.cell? ⟨g, 0, none⟩ = some (.string S0))
            ((refine (fun hB => ⟨hB, cell_keep z0 hB, cell_keep z1 hB, cell_keep z2 hB, cell_keep z3 hB, cell_keep z4 hB, cell_keep z5 hB, cell_keep z6 hB, cell_keep z7 hB, cell_keep z8 hB, cell_keep cc0 hB⟩ : Below wr.heap.size wr _ → _) ?_; (first | exact below_drew _ | exact hk1)))
            (first | (go_at_call 197; refine (l1Text_any 4 ty _ f1 _ (Nat.le_refl _) (HTY.out (by simp)) (HF1.out.below (below_drew _))).mono ?_; rw [← HST.out]; rintro e w5 ⟨rfl, hy1⟩; have hk1 := below_trans (below_drew _) hy1))
          go_wp2_with fail
          go_ret
          refine ⟨ret_s ?_, below_trans HBB.out hk1⟩
          rw [tmX_13, HST.out]
          rw [HS0.out]
          apply ByteArray.ext
          simp [ByteArray.data_append]
        ·
          obtain ⟨g, rfl, hgl, -, hgc⟩ := HGR.out.cells (by simp [tmXL])
          obtain ⟨S0, hS0⟩ : ∃ S : ByteArray, S = ⟨(tmX a).toArray⟩ := ⟨_, rfl⟩
          have cc0 : wr.cell? ⟨g, 0, none⟩ = some (.string S0) := by rw [hS0]; exact hgc 0 (tmX a) rfl
          have l0 : S0.size ≤ 300 * 1048578 := by rw [hS0]; exact HLN.out a (by simp)
          have HS0 := hid hS0
          clear hS0
          clear hgc
          obtain ⟨ST, hST⟩ : ∃ S : ByteArray, S = ⟨(58 :: (txt 4 fr ++ (126 :: (txt 4 ty ++ (35 :: (Lib.itoa lb ++ [41])))))).toArray⟩ := ⟨_, rfl⟩
          have lt : ST.size ≤ 200 := by
            have h1 := txt_le 4 ty (Nat.le_refl _)
            have h2 := txt_le 4 fr (Nat.le_refl _)
            have h3 := itoa_le (n := lb) (by have := HLB.out rfl; omega) (by have := HLB.out rfl; omega)
            rw [hST]
            show (58 :: (txt 4 fr ++ (126 :: (txt 4 ty ++ (35 :: (Lib.itoa lb ++ [41])))))).length ≤ 200
            simp only [List.length_cons, List.length_append, List.length_nil]
            omega
          have HST := hid hST
          clear hST
          have q0 : ¬ (9223372036854775807 < 1 + S0.size) := by omega
          have q1 : ¬ (9223372036854775807 < 1 + S0.size + ST.size) := by omega
          go_wp2_with fail
          go_region_held3 (fun w' => Below wr.heap.size wr w' ∧ w'.cell? ⟨w.heap.size, 0, none⟩ = some (.int .i64 14) ∧ w'.cell? ⟨w.heap.size, 1, none⟩ = some (.string nm) ∧ w'.cell? ⟨w.heap.size, 2, none⟩ = some (.int .i64 num) ∧ w'.cell? ⟨w.heap.size, 3, none⟩ = some (.int .i64 k1) ∧ w'.cell? ⟨w.heap.size, 4, none⟩ = some (.slice a1 n1 c1) ∧ w'.cell? ⟨w.heap.size, 5, none⟩ = some (.int .i64 k2) ∧ w'.cell? ⟨w.heap.size, 6, none⟩ = some (.slice a2 n2 c2) ∧ w'.cell? ⟨w.heap.size, 7, none⟩ = some (.int .i64 lb) ∧ w'.cell? ⟨w.heap.size, 8, none⟩ = some (.slice a3 [a].length c3) ∧ w'.cell? ⟨g, 0, none⟩ = some (.string S0))
            ((refine (fun hB => ⟨hB, cell_keep z0 hB, cell_keep z1 hB, cell_keep z2 hB, cell_keep z3 hB, cell_keep z4 hB, cell_keep z5 hB, cell_keep z6 hB, cell_keep z7 hB, cell_keep z8 hB, cell_keep cc0 hB⟩ : Below wr.heap.size wr _ → _) ?_; (first | exact below_drew _ | exact hk1)))
            (first | (go_at_call 198; refine (l2Cast_any nm num ty fr lb [a] _ _ _ (HAT.out.below (below_drew _)) (HTY.out (by simp)) (HFR.out (by simp)) (HLB.out (by simp))).mono ?_; rw [← HST.out]; rintro e w5 ⟨rfl, hy1⟩; have hk1 := below_trans (below_drew _) hy1))
          go_wp2_with fail
          go_ret
          refine ⟨ret_s ?_, below_trans HBB.out hk1⟩
          rw [tmX_14, HST.out]
          rw [HS0.out]
          apply ByteArray.ext
          simp [ByteArray.data_append]
      · obtain rfl : j = 2 := by simp at hj hlk; omega
        rcases hq with rfl | rfl | rfl | rfl
        ·
          obtain ⟨g, rfl, hgl, -, hgc⟩ := HGR.out.cells (by simp [tmXL])
          obtain ⟨S0, hS0⟩ : ∃ S : ByteArray, S = ⟨(tmX a).toArray⟩ := ⟨_, rfl⟩
          have cc0 : wr.cell? ⟨g, 0, none⟩ = some (.string S0) := by rw [hS0]; exact hgc 0 (tmX a) rfl
          have l0 : S0.size ≤ 300 * 1048578 := by rw [hS0]; exact HLN.out a (by simp)
          have HS0 := hid hS0
          clear hS0
          obtain ⟨S1, hS1⟩ : ∃ S : ByteArray, S = ⟨(tmX b).toArray⟩ := ⟨_, rfl⟩
          have cc1 : wr.cell? ⟨g, 1, none⟩ = some (.string S1) := by rw [hS1]; exact hgc 1 (tmX b) rfl
          have l1 : S1.size ≤ 300 * 1048578 := by rw [hS1]; exact HLN.out b (by simp)
          have HS1 := hid hS1
          clear hS1
          clear hgc
          have hsl : ∀ W : World, (Instr.slice 9 (.string ⟨#[32, 43, 60]⟩) (some (.int .i64 (IntKind.i64.wrap 0))) (some (.int .i64 (IntKind.i64.wrap (IntKind.i64.wrap 0 + 1)))) none).run Tryd.prog W = .ok (.string ⟨#[32]⟩) W := fun _ => by kernel_rfl
          have q0 : ¬ (9223372036854775807 < 1 + S0.size) := by omega
          have q1 : ¬ (9223372036854775807 < 1 + S0.size + 1) := by omega
          have q2 : ¬ (9223372036854775807 < 1 + S0.size + 1 + S1.size) := by omega
          have q3 : ¬ (9223372036854775807 < 1 + S0.size + 1 + S1.size + 1) := by omega
          go_wp2_with fail
          go_region_held3 (fun w' => Below wr.heap.size wr w' ∧ w'.cell? ⟨w.heap.size, 0, none⟩ = some (.int .i64 6) ∧ w'.cell? ⟨w.heap.size, 1, none⟩ = some (.string nm) ∧ w'.cell? ⟨w.heap.size, 2, none⟩ = some (.int .i64 num) ∧ w'.cell? ⟨w.heap.size, 3, none⟩ = some (.int .i64 k1) ∧ w'.cell? ⟨w.heap.size, 4, none⟩ = some (.slice a1 n1 c1) ∧ w'.cell? ⟨w.heap.size, 5, none⟩ = some (.int .i64 k2) ∧ w'.cell? ⟨w.heap.size, 6, none⟩ = some (.slice a2 n2 c2) ∧ w'.cell? ⟨w.heap.size, 7, none⟩ = some (.int .i64 lb) ∧ w'.cell? ⟨w.heap.size, 8, none⟩ = some (.slice a3 [a, b].length c3) ∧ w'.cell? ⟨g, 0, none⟩ = some (.string S0) ∧ w'.cell? ⟨g, 1, none⟩ = some (.string S1))
            ((refine (fun hB => ⟨hB, cell_keep z0 hB, cell_keep z1 hB, cell_keep z2 hB, cell_keep z3 hB, cell_keep z4 hB, cell_keep z5 hB, cell_keep z6 hB, cell_keep z7 hB, cell_keep z8 hB, cell_keep cc0 hB, cell_keep cc1 hB⟩ : Below wr.heap.size wr _ → _) ?_; (first | exact below_drew _)))
            (fail)
          go_wp2_with fail
          go_ret
          refine ⟨ret_s ?_, below_trans HBB.out (below_drew _)⟩
          rw [tmX_6]
          rw [HS0.out, HS1.out]
          apply ByteArray.ext
          simp [ByteArray.data_append]
        ·
          obtain ⟨g, rfl, hgl, -, hgc⟩ := HGR.out.cells (by simp [tmXL])
          obtain ⟨S0, hS0⟩ : ∃ S : ByteArray, S = ⟨(tmX a).toArray⟩ := ⟨_, rfl⟩
          have cc0 : wr.cell? ⟨g, 0, none⟩ = some (.string S0) := by rw [hS0]; exact hgc 0 (tmX a) rfl
          have l0 : S0.size ≤ 300 * 1048578 := by rw [hS0]; exact HLN.out a (by simp)
          have HS0 := hid hS0
          clear hS0
          obtain ⟨S1, hS1⟩ : ∃ S : ByteArray, S = ⟨(tmX b).toArray⟩ := ⟨_, rfl⟩
          have cc1 : wr.cell? ⟨g, 1, none⟩ = some (.string S1) := by rw [hS1]; exact hgc 1 (tmX b) rfl
          have l1 : S1.size ≤ 300 * 1048578 := by rw [hS1]; exact HLN.out b (by simp)
          have HS1 := hid hS1
          clear hS1
          clear hgc
          have hsl : ∀ W : World, (Instr.slice 9 (.string ⟨#[32, 43, 60]⟩) (some (.int .i64 (IntKind.i64.wrap 1))) (some (.int .i64 (IntKind.i64.wrap (IntKind.i64.wrap 1 + 1)))) none).run Tryd.prog W = .ok (.string ⟨#[43]⟩) W := fun _ => by kernel_rfl
          have q0 : ¬ (9223372036854775807 < 1 + S0.size) := by omega
          have q1 : ¬ (9223372036854775807 < 1 + S0.size + 1) := by omega
          have q2 : ¬ (9223372036854775807 < 1 + S0.size + 1 + S1.size) := by omega
          have q3 : ¬ (9223372036854775807 < 1 + S0.size + 1 + S1.size + 1) := by omega
          go_wp2_with fail
          go_region_held3 (fun w' => Below wr.heap.size wr w' ∧ w'.cell? ⟨w.heap.size, 0, none⟩ = some (.int .i64 7) ∧ w'.cell? ⟨w.heap.size, 1, none⟩ = some (.string nm) ∧ w'.cell? ⟨w.heap.size, 2, none⟩ = some (.int .i64 num) ∧ w'.cell? ⟨w.heap.size, 3, none⟩ = some (.int .i64 k1) ∧ w'.cell? ⟨w.heap.size, 4, none⟩ = some (.slice a1 n1 c1) ∧ w'.cell? ⟨w.heap.size, 5, none⟩ = some (.int .i64 k2) ∧ w'.cell? ⟨w.heap.size, 6, none⟩ = some (.slice a2 n2 c2) ∧ w'.cell? ⟨w.heap.size, 7, none⟩ = some (.int .i64 lb) ∧ w'.cell? ⟨w.heap.size, 8, none⟩ = some (.slice a3 [a, b].length c3) ∧ w'.cell? ⟨g, 0, none⟩ = some (.string S0) ∧ w'.cell? ⟨g, 1, none⟩ = some (.string S1))
            ((refine (fun hB => ⟨hB, cell_keep z0 hB, cell_keep z1 hB, cell_keep z2 hB, cell_keep z3 hB, cell_keep z4 hB, cell_keep z5 hB, cell_keep z6 hB, cell_keep z7 hB, cell_keep z8 hB, cell_keep cc0 hB, cell_keep cc1 hB⟩ : Below wr.heap.size wr _ → _) ?_; (first | exact below_drew _)))
            (fail)
          go_wp2_with fail
          go_ret
          refine ⟨ret_s ?_, below_trans HBB.out (below_drew _)⟩
          rw [tmX_7]
          rw [HS0.out, HS1.out]
          apply ByteArray.ext
          simp [ByteArray.data_append]
        ·
          obtain ⟨g, rfl, hgl, -, hgc⟩ := HGR.out.cells (by simp [tmXL])
          obtain ⟨S0, hS0⟩ : ∃ S : ByteArray, S = ⟨(tmX a).toArray⟩ := ⟨_, rfl⟩
          have cc0 : wr.cell? ⟨g, 0, none⟩ = some (.string S0) := by rw [hS0]; exact hgc 0 (tmX a) rfl
          have l0 : S0.size ≤ 300 * 1048578 := by rw [hS0]; exact HLN.out a (by simp)
          have HS0 := hid hS0
          clear hS0
          obtain ⟨S1, hS1⟩ : ∃ S : ByteArray, S = ⟨(tmX b).toArray⟩ := ⟨_, rfl⟩
          have cc1 : wr.cell? ⟨g, 1, none⟩ = some (.string S1) := by rw [hS1]; exact hgc 1 (tmX b) rfl
          have l1 : S1.size ≤ 300 * 1048578 := by rw [hS1]; exact HLN.out b (by simp)
          have HS1 := hid hS1
          clear hS1
          clear hgc
          have hsl : ∀ W : World, (Instr.slice 9 (.string ⟨#[32, 43, 60]⟩) (some (.int .i64 (IntKind.i64.wrap 2))) (some (.int .i64 (IntKind.i64.wrap (IntKind.i64.wrap 2 + 1)))) none).run Tryd.prog W = .ok (.string ⟨#[60]⟩) W := fun _ => by kernel_rfl
          have q0 : ¬ (9223372036854775807 < 1 + S0.size) := by omega
          have q1 : ¬ (9223372036854775807 < 1 + S0.size + 1) := by omega
          have q2 : ¬ (9223372036854775807 < 1 + S0.size + 1 + S1.size) := by omega
          have q3 : ¬ (9223372036854775807 < 1 + S0.size + 1 + S1.size + 1) := by omega
          go_wp2_with fail
          go_region_held3 (fun w' => Below wr.heap.size wr w' ∧ w'.cell? ⟨w.heap.size, 0, none⟩ = some (.int .i64 8) ∧ w'.cell? ⟨w.heap.size, 1, none⟩ = some (.string nm) ∧ w'.cell? ⟨w.heap.size, 2, none⟩ = some (.int .i64 num) ∧ w'.cell? ⟨w.heap.size, 3, none⟩ = some (.int .i64 k1) ∧ w'.cell? ⟨w.heap.size, 4, none⟩ = some (.slice a1 n1 c1) ∧ w'.cell? ⟨w.heap.size, 5, none⟩ = some (.int .i64 k2) ∧ w'.cell? ⟨w.heap.size, 6, none⟩ = some (.slice a2 n2 c2) ∧ w'.cell? ⟨w.heap.size, 7, none⟩ = some (.int .i64 lb) ∧ w'.cell? ⟨w.heap.size, 8, none⟩ = some (.slice a3 [a, b].length c3) ∧ w'.cell? ⟨g, 0, none⟩ = some (.string S0) ∧ w'.cell? ⟨g, 1, none⟩ = some (.string S1))
            ((refine (fun hB => ⟨hB, cell_keep z0 hB, cell_keep z1 hB, cell_keep z2 hB, cell_keep z3 hB, cell_keep z4 hB, cell_keep z5 hB, cell_keep z6 hB, cell_keep z7 hB, cell_keep z8 hB, cell_keep cc0 hB, cell_keep cc1 hB⟩ : Below wr.heap.size wr _ → _) ?_; (first | exact below_drew _)))
            (fail)
          go_wp2_with fail
          go_ret
          refine ⟨ret_s ?_, below_trans HBB.out (below_drew _)⟩
          rw [tmX_8]
          rw [HS0.out, HS1.out]
          apply ByteArray.ext
          simp [ByteArray.data_append]
        ·
          obtain ⟨g, rfl, hgl, -, hgc⟩ := HGR.out.cells (by simp [tmXL])
          obtain ⟨S0, hS0⟩ : ∃ S : ByteArray, S = ⟨(tmX a).toArray⟩ := ⟨_, rfl⟩
          have cc0 : wr.cell? ⟨g, 0, none⟩ = some (.string S0) := by rw [hS0]; exact hgc 0 (tmX a) rfl
          have l0 : S0.size ≤ 300 * 1048578 := by rw [hS0]; exact HLN.out a (by simp)
          have HS0 := hid hS0
          clear hS0
          obtain ⟨S1, hS1⟩ : ∃ S : ByteArray, S = ⟨(tmX b).toArray⟩ := ⟨_, rfl⟩
          have cc1 : wr.cell? ⟨g, 1, none⟩ = some (.string S1) := by rw [hS1]; exact hgc 1 (tmX b) rfl
          have l1 : S1.size ≤ 300 * 1048578 := by rw [hS1]; exact HLN.out b (by simp)
          have HS1 := hid hS1
          clear hS1
          clear hgc
          have q0 : ¬ (9223372036854775807 < 1 + S0.size) := by omega
          have q1 : ¬ (9223372036854775807 < 1 + S0.size + 1) := by omega
          have q2 : ¬ (9223372036854775807 < 1 + S0.size + 1 + S1.size) := by omega
          have q3 : ¬ (9223372036854775807 < 1 + S0.size + 1 + S1.size + 1) := by omega
          go_wp2_with fail
          go_region_held3 (fun w' => Below wr.heap.size wr w' ∧ w'.cell? ⟨w.heap.size, 0, none⟩ = some (.int .i64 10) ∧ w'.cell? ⟨w.heap.size, 1, none⟩ = some (.string nm) ∧ w'.cell? ⟨w.heap.size, 2, none⟩ = some (.int .i64 num) ∧ w'.cell? ⟨w.heap.size, 3, none⟩ = some (.int .i64 k1) ∧ w'.cell? ⟨w.heap.size, 4, none⟩ = some (.slice a1 n1 c1) ∧ w'.cell? ⟨w.heap.size, 5, none⟩ = some (.int .i64 k2) ∧ w'.cell? ⟨w.heap.size, 6, none⟩ = some (.slice a2 n2 c2) ∧ w'.cell? ⟨w.heap.size, 7, none⟩ = some (.int .i64 lb) ∧ w'.cell? ⟨w.heap.size, 8, none⟩ = some (.slice a3 [a, b].length c3) ∧ w'.cell? ⟨g, 0, none⟩ = some (.string S0) ∧ w'.cell? ⟨g, 1, none⟩ = some (.string S1))
            ((refine (fun hB => ⟨hB, cell_keep z0 hB, cell_keep z1 hB, cell_keep z2 hB, cell_keep z3 hB, cell_keep z4 hB, cell_keep z5 hB, cell_keep z6 hB, cell_keep z7 hB, cell_keep z8 hB, cell_keep cc0 hB, cell_keep cc1 hB⟩ : Below wr.heap.size wr _ → _) ?_; (first | exact below_drew _)))
            (fail)
          go_wp2_with fail
          go_ret
          refine ⟨ret_s ?_, below_trans HBB.out (below_drew _)⟩
          rw [tmX_10]
          rw [HS0.out, HS1.out]
          apply ByteArray.ext
          simp [ByteArray.data_append]
      · obtain rfl : j = 3 := by simp at hj hlk; omega
        obtain ⟨g, rfl, hgl, -, hgc⟩ := HGR.out.cells (by simp [tmXL])
        obtain ⟨S0, hS0⟩ : ∃ S : ByteArray, S = ⟨(tmX a).toArray⟩ := ⟨_, rfl⟩
        have cc0 : wr.cell? ⟨g, 0, none⟩ = some (.string S0) := by rw [hS0]; exact hgc 0 (tmX a) rfl
        have l0 : S0.size ≤ 300 * 1048578 := by rw [hS0]; exact HLN.out a (by simp)
        have HS0 := hid hS0
        clear hS0
        obtain ⟨S1, hS1⟩ : ∃ S : ByteArray, S = ⟨(tmX b).toArray⟩ := ⟨_, rfl⟩
        have cc1 : wr.cell? ⟨g, 1, none⟩ = some (.string S1) := by rw [hS1]; exact hgc 1 (tmX b) rfl
        have l1 : S1.size ≤ 300 * 1048578 := by rw [hS1]; exact HLN.out b (by simp)
        have HS1 := hid hS1
        clear hS1
        obtain ⟨S2, hS2⟩ : ∃ S : ByteArray, S = ⟨(tmX c).toArray⟩ := ⟨_, rfl⟩
        have cc2 : wr.cell? ⟨g, 2, none⟩ = some (.string S2) := by rw [hS2]; exact hgc 2 (tmX c) rfl
        have l2 : S2.size ≤ 300 * 1048578 := by rw [hS2]; exact HLN.out c (by simp)
        have HS2 := hid hS2
        clear hS2
        clear hgc
        have q0 : ¬ (9223372036854775807 < 1 + S0.size) := by omega
        have q1 : ¬ (9223372036854775807 < 1 + S0.size + 1) := by omega
        have q2 : ¬ (9223372036854775807 < 1 + S0.size + 1 + S1.size) := by omega
        have q3 : ¬ (9223372036854775807 < 1 + S0.size + 1 + S1.size + 1) := by omega
        have q4 : ¬ (9223372036854775807 < 1 + S0.size + 1 + S1.size + 1 + S2.size) := by omega
        have q5 : ¬ (9223372036854775807 < 1 + S0.size + 1 + S1.size + 1 + S2.size + 1) := by omega
        go_wp2_with fail
        go_region_held3 (fun w' => Below wr.heap.size wr w' ∧ w'.cell? ⟨w.heap.size, 0, none⟩ = some (.int .i64 9) ∧ w'.cell? ⟨w.heap.size, 1, none⟩ = some (.string nm) ∧ w'.cell? ⟨w.heap.size, 2, none⟩ = some (.int .i64 num) ∧ w'.cell? ⟨w.heap.size, 3, none⟩ = some (.int .i64 k1) ∧ w'.cell? ⟨w.heap.size, 4, none⟩ = some (.slice a1 n1 c1) ∧ w'.cell? ⟨w.heap.size, 5, none⟩ = some (.int .i64 k2) ∧ w'.cell? ⟨w.heap.size, 6, none⟩ = some (.slice a2 n2 c2) ∧ w'.cell? ⟨w.heap.size, 7, none⟩ = some (.int .i64 lb) ∧ w'.cell? ⟨w.heap.size, 8, none⟩ = some (.slice a3 [a, b, c].length c3) ∧ w'.cell? ⟨g, 0, none⟩ = some (.string S0) ∧ w'.cell? ⟨g, 1, none⟩ = some (.string S1) ∧ w'.cell? ⟨g, 2, none⟩ = some (.string S2))
          ((refine (fun hB => ⟨hB, cell_keep z0 hB, cell_keep z1 hB, cell_keep z2 hB, cell_keep z3 hB, cell_keep z4 hB, cell_keep z5 hB, cell_keep z6 hB, cell_keep z7 hB, cell_keep z8 hB, cell_keep cc0 hB, cell_keep cc1 hB, cell_keep cc2 hB⟩ : Below wr.heap.size wr _ → _) ?_; (first | exact below_drew _)))
          (fail)
        go_wp2_with fail
        go_ret
        refine ⟨ret_s ?_, below_trans HBB.out (below_drew _)⟩
        rw [tmX_9]
        rw [HS0.out, HS1.out, HS2.out]
        apply ByteArray.ext
        simp [ByteArray.data_append]

theorem l2Text_any : ∀ t : Tm, L2C t := Tm.ind l2Text_of
end Go.Proofs.YtgekfnodmgkdaaaDoor

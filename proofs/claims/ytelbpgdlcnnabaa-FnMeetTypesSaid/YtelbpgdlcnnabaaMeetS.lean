/- The specification: l1Meet. -/
import Derived.Test.YtelbpgdlcnnabaaMj
namespace Go.Proofs.Ytelbpgdlcnnabaa
open Go.RowKit


def MtC (t : Ty) : Prop := ∀ (u : Ty) (v1 v2 : Value) (f1 f2 : List Nat) (w : World), t.At w v1 f1 → u.At w v2 f2 → wf t → wf u → cons t u = true → t.cnt ≤ 1048576 → u.cnt ≤ 1048576 →
  Calls Try.prog 61 #[v1, v2] w (MadeT w (meet t u))

set_option maxHeartbeats 4000000 in
set_option maxRecDepth 100000 in
theorem l1Meet_build (k : Int) (ts us : List Ty) (ih : ∀ t ∈ ts, MtC t) (hk : k ≠ 1) (hlen : ts.length = us.length) (hw1 : ∀ t ∈ ts, wf t) (hw2 : ∀ t ∈ us, wf t) (hcl : consL ts us = true)
    (hn1 : (Ty.mk k ts).cnt ≤ 1048576) (hn2 : (Ty.mk k us).cnt ≤ 1048576) (hT : meet (.mk k ts) (.mk k us) = .mk k (meetL ts us))
    (v1 v2 : Value) (f1 f2 : List Nat) (w : World) (h1 : Ty.At w (.mk k ts) v1 f1) (h2 : Ty.At w (.mk k us) v2 f2) : Calls Try.prog 61 #[v1, v2] w (MadeT w (meet (.mk k ts) (.mk k us))) := by
  have HIH := hid ih
  have HW1 := hid hw1
  have HW2 := hid hw2
  have HT := hid hT
  have HCL := hid hcl
  clear ih hw1 hw2 hT hcl
  obtain ⟨s1, rfl, hs1⟩ := Ty.at_mk.1 h1
  obtain ⟨s2, rfl, hs2⟩ := Ty.at_mk.1 h2
  obtain ⟨a, cap, rfl, hc, hm, hget⟩ := hs1.openA
  have HG := hid hget
  obtain ⟨a2, cap2, rfl, hc2, hm2, hget2⟩ := hs2.openA
  have HG2 := hid hget2
  have HN1 := hid (show ts.length + cntL ts ≤ 1048576 by simpa only [Ty.cnt] using hn1)
  have HN2 := hid (show us.length + cntL us ≤ 1048576 by simpa only [Ty.cnt] using hn2)
  obtain ⟨i0, hi0, hz0, hz1, hz2⟩ := info_parts (P := Try.prog) (e := 25) Try.infoElem
  have hle : ts.length ≤ us.length := by omega
  have HLE := hid hlen
  have hk1 : (k == 1) = false := by simpa using hk
  have HZL := hid (show (meetL ts us).length = ts.length by rw [meetL_zip, List.length_zipWith]; omega)
  clear hget hget2 hs1 hs2 h1 h2 hn1 hn2 hlen hk
  go_enter Try.func61, Try.ntmps61
  go_wp2_with fail
  go_loopw [6] (fun i wr => ∃ (j : Nat) (v : Value) (f : List Nat), j ≤ ts.length ∧ i = .int .i64 j ∧ Below (w.heap.size + 1 + 1 + 1) ((((w.alloc (Obj.cells #[.int .i64 k, .slice a ts.length cap] 25)).alloc (Obj.cells #[.int .i64 k, .slice a2 us.length cap2] 25)).alloc (Obj.cells #[.int .i64 0, .slice none 0 0] 25)).alloc (Obj.cells #[.int .i64 k, .slice none 0 0] 25)) wr ∧ wr.heap[w.heap.size + 1 + 1 + 1]? = some (.cells #[.int .i64 k, v] 25 (0, 0)) ∧ GrowT (w.heap.size + 1 + 1 + 1 + 1) ((meetL ts us).take j) v f wr)
    (fun i _ => ts.length - (intOf i).toNat)
  case atStart =>
    have hs : (((w.alloc (Obj.cells #[.int .i64 k, .slice a ts.length cap] 25)).alloc (Obj.cells #[.int .i64 k, .slice a2 us.length cap2] 25)).alloc (Obj.cells #[.int .i64 0, .slice none 0 0] 25)).heap.size = w.heap.size + 1 + 1 + 1 := by simp
    exact ⟨0, .slice none 0 0, [], Nat.zero_le _, rfl, Below.refl _ _, by rw [← hs]; exact alloc_new _ _, GrowT.zero _ _⟩
  case round =>
    obtain ⟨j, v, f, hj, rfl, hb, hO, hG⟩ := hrel
    have hbw : Below w.heap.size w wr := Below.trans (((((Below.refl _ _).alloc (Nat.le_refl _) _).alloc (by simp) _).alloc (by simp; omega) _).alloc (by simp; omega) _) (hb.mono (by omega))
    obtain ⟨x0, x1, x2, x3, r0, r1, rz⟩ := boxes_out2 hb
    have y0 : wr.cell? ⟨w.heap.size + 1 + 1 + 1, 0, none⟩ = some (.int .i64 k) := by rw [cell_of_block hO]; rfl
    have y1 : wr.cell? ⟨w.heap.size + 1 + 1 + 1, 1, none⟩ = some v := by rw [cell_of_block hO]; rfl
    by_cases hlk : j < ts.length
    · have hlk2 : j < us.length := by omega
      obtain ⟨b, o, k1, n1, a1, cap1, g1, rfl, hblt, c0, c1, hat, hf⟩ := HG.out j hlk
      obtain ⟨b2, o2, k3, n3, a3, cap3, g2, rfl, hblt2, e0, e1, hat2, hf2⟩ := HG2.out j hlk2
      have d0 := (hbw.cell (p := ⟨b, o + j * 2, none⟩) hblt).trans c0
      have d1 := (hbw.cell (p := ⟨b, o + j * 2 + 1, none⟩) hblt).trans c1
      have d2 := (hbw.cell (p := ⟨b2, o2 + j * 2, none⟩) hblt2).trans e0
      have d3 := (hbw.cell (p := ⟨b2, o2 + j * 2 + 1, none⟩) hblt2).trans e1
      have hle1 := cnt_mem (List.getElem_mem hlk)
      have hle2 := cnt_mem (List.getElem_mem hlk2)
      have hq1 : ts[j].cnt ≤ 1048576 := by have := HN1.out; omega
      have hq2 : us[j].cnt ≤ 1048576 := by have := HN2.out; omega
      have hj0 : (0 : Int) ≤ (j : Int) := by omega
      have hj1 : (j : Int) < (ts.length : Int) := by omega
      have hj2 : (j : Int) < (us.length : Int) := by omega
      have hM : w.heap.size + 1 + 1 + 1 < wr.heap.size := lt_of_block hO
      have HWa := hid (HW1.out _ (List.getElem_mem hlk))
      have HWb := hid (HW2.out _ (List.getElem_mem hlk2))
      have HCJ := hid (consL_get hlk hlk2 HCL.out)
      have HQ1 := hid hq1
      have HQ2 := hid hq2
      clear c0 c1 e0 e1 hle1 hle2 hq1 hq2
      have hlen : ((meetL ts us).take j).length = j := by rw [List.length_take, HZL.out]; omega
      have HLEN := hid hlen
      have hjj : j < (meetL ts us).length := by rw [HZL.out]; exact hlk
      have HSN := hid (show (meetL ts us).take (j + 1) = (meetL ts us).take j ++ [meet ts[j] us[j]] by rw [take_succ hjj]; congr 1; simp [meetL_zip])
      clear hlen hjj
      have hmx : j + 1 ≤ maxLen := by unfold maxLen; omega
      have hby : (j + 1) * 32 ≤ 140737488355328 := by have := HN1.out; omega
      go_wp2_with fail
      go_region_law (first
        | (refine step_append_lies _ (by rfl) _ _ _ (by rfl) (w.heap.size + 1 + 1 + 1 + 1) 25 i0 _ 2 32 Try.underElems hi0 hz0 hz1 hz2 rfl (by omega) v j xs (by rfl) (ho2.alloc _) ⟨w1.heap.size, 0, none⟩ 1 1 [.int .i64 k2, .slice a4 n2 cap4] (by rfl) (by rfl) (World.news_of_block (cs := #[.int .i64 k2, .slice a4 n2 cap4]) (t := 25) (fr := (0, 0)) (heap_alloc_new w1 _)) (by simp [Value.oneCell']) (by omega) hmx hby (by simp; omega) (w1.heap.size + 1) (by simp) ?_; intro g cp w3 hown3 hgrow hat3 hlt3; have hO3 := grow_keep hgrow ((Below.heap_alloc _ _ _ hM1).trans hO1) (own_ne ho2 (by omega)); have z1 := (cell_of_block (o := 1) hO3); have z2 := (frozen_of_block (o := 1) hO3))
        | (go_simp; go_at_call 61; refine (HIH.out _ (List.getElem_mem hlk) _ _ _ _ _ _ (hat.below hbw.drew) (hat2.below hbw.drew) HWa.out HWb.out HCJ.out HQ1.out HQ2.out).mono ?_; rintro e w1 ⟨v1, f', rfl, hat', hf', hb1⟩; obtain ⟨k2, n2, a4, cap4, rfl⟩ := hat'.agg; have hbd := below_trans (below_drew wr) hb1; have x0' := cell_keep x0 hbd; have x1' := cell_keep x1 hbd; have x2' := cell_keep x2 hbd; have x3' := cell_keep x3 hbd; have y1' := cell_keep y1 hbd; have y0' := cell_keep y0 hbd; have d0' := cell_keep d0 hbd; have d1' := cell_keep d1 hbd; have d2' := cell_keep d2 hbd; have d3' := cell_keep d3 hbd; obtain ⟨xs, ho1, ha1, hf1, hn1⟩ := hG.below hbd; have ho2 := ho1; rw [HLEN.out] at ho2; have hO1 := (hbd.block _ hM).trans hO; have hM1 := lt_of_block hO1))
      all_goals
        have hG3 := GrowT.step (w2 := w1.alloc (Obj.cells #[.int .i64 k2, .slice a4 n2 cap4] 25)) ha1 hf1 hn1 hG.block.1 hG.block.2 (by omega) hat' hf' ((Below.refl _ _).alloc (Nat.le_refl _) _) hgrow hown3 (by rw [HLEN.out]) (by simpa using hat3)
        have hw3 : Below (w.heap.size + 1 + 1 + 1) w1 w3 := ((Below.refl _ _).alloc (by omega) _).grown hgrow (by simp; omega) (fun b hb => by have := (ho2.lt b hb).1; omega)
        have hbb := (hb.trans (hbd.mono (by omega))).trans hw3
        rw [← HSN.out] at hG3
        clear hO1 hO ha1 hf1 hn1 hat' hf' hgrow hown3 hat3 hlt3 ho1 ho2 hb hbd hw3 hbw hG z1 z2 x0 x1 x2 x3 y0 y1 x0' x1' x2' x3' y0' y1' d0 d1 d2 d3 d0' d1' d2' d3' r0 r1 rz
        go_wp2_with fail
        refine ⟨⟨j + 1, _, _, by omega, by go_num, hbb.setCell (p := ⟨w.heap.size + 1 + 1 + 1, 1, none⟩) (Nat.le_refl _) _, ?_, hG3.setCell (p := ⟨w.heap.size + 1 + 1 + 1, 1, none⟩) (by simp) _⟩, by simp [intOf]; omega⟩
        rw [heap_setCell_at hO3]
        rfl
    · obtain ⟨a', cap', rfl⟩ := hG.shape
      obtain ⟨fp', hs', hf'⟩ := hG.done (by unfold maxLen; rw [List.length_take, HZL.out]; omega)
      have hz : ((meetL ts us).take j) = meetL ts us := List.take_of_length_le (by rw [HZL.out]; omega)
      rw [hz] at hs' y1
      rw [HZL.out] at y1
      rw [HZL.out] at hs'
      have hM : w.heap.size + 1 + 1 + 1 < wr.heap.size := lt_of_block hO
      have hab := ((Above.refl (w.heap.size + 1 + 1 + 1 + 1) wr).setCell (p := ⟨w.heap.size + 1 + 1, 0, none⟩) (by simp) (.int .i64 k)).setCell (p := ⟨w.heap.size + 1 + 1, 1, none⟩) (by simp) (.slice a' ts.length cap')
      have hbb := (hbw.setCell (p := ⟨w.heap.size + 1 + 1, 0, none⟩) (by simp; omega) (.int .i64 k)).setCell (p := ⟨w.heap.size + 1 + 1, 1, none⟩) (by simp; omega) (.slice a' ts.length cap')
      have hst := hs'.above hab (fun b hb => hf'.ge b hb)
      have hft := (hf'.above hab (Nat.le_refl _)).mono (B' := w.heap.size) (by omega)
      clear hs' hz hG hO hb
      go_wp2_with fail
      exact bodyPost_ret (v := .agg #[.int .i64 k, .slice a' ts.length cap']) (by simp [results, Try.results61, go_sem, r0, r1]) rfl ⟨_, fp', rfl, by rw [HT.out]; exact Ty.at_mk.2 ⟨_, rfl, hst⟩, hft, hbb⟩

end Go.Proofs.Ytelbpgdlcnnabaa

/- The specification's l6Copy. -/
import Derived.Test.YtgekfnodmgkdaaaCGr
import Derived.Test.YtgekfnodmgkdaaaCp
namespace Go.Proofs.Ytgekfnodmgkdaaa
open Go.RowKit

def CcC (t : Co) : Prop := ∀ (v : Value) (fp : List Nat) (w : World), t.At w v fp → t.cnt ≤ 1048576 → Calls Try.prog 52 #[v] w (MadeC w t)

set_option maxRecDepth 100000 in
set_option maxHeartbeats 4000000 in
theorem l6Copy_of (k g l : Int) (ts : List Co) (ih : ∀ t ∈ ts, CcC t) : CcC (.mk k g l ts) := by
  intro v fp w hat hn
  have HIH := hid ih
  clear ih
  obtain ⟨s, rfl, hs⟩ := Co.at_mk.1 hat
  obtain ⟨a, cap, rfl, hc, hm, hget⟩ := hs.open
  have HG := hid hget
  have HN := hid (show ts.length + ccntL ts ≤ 1048576 by simpa only [Co.cnt] using hn)
  obtain ⟨i0, hi0, hz0, hz1, hz2⟩ := info_parts (P := Try.prog) (e := 44) Try.infoElemC
  clear hget hat hs hn
  go_enter Try.func52, Try.ntmps52
  go_wp2_with fail
  go_loopw [4] (fun i wr => ∃ (j : Nat) (v : Value) (f : List Nat), j ≤ ts.length ∧ i = .int .i64 j ∧ Below (w.heap.size + 1 + 1) (((w.alloc (Obj.cells #[.int .i64 k, .int .i64 g, .int .i64 l, .slice a ts.length cap] 44)).alloc (Obj.cells #[.int .i64 0, .int .i64 0, .int .i64 0, .slice none 0 0] 44)).alloc (Obj.cells #[.int .i64 k, .int .i64 g, .int .i64 l, .slice none 0 0] 44)) wr ∧ wr.heap[w.heap.size + 1 + 1]? = some (.cells #[.int .i64 k, .int .i64 g, .int .i64 l, v] 44 (0, 0)) ∧ GrowC (w.heap.size + 1 + 1 + 1) (ts.take j) v f wr)
    (fun i _ => ts.length - (intOf i).toNat)
  case atStart =>
    have hs : ((w.alloc (Obj.cells #[.int .i64 k, .int .i64 g, .int .i64 l, .slice a ts.length cap] 44)).alloc (Obj.cells #[.int .i64 0, .int .i64 0, .int .i64 0, .slice none 0 0] 44)).heap.size = w.heap.size + 1 + 1 := by simp
    exact ⟨0, .slice none 0 0, [], Nat.zero_le _, rfl, Below.refl _ _, by rw [← hs]; exact alloc_new _ _, GrowC.zero _ _⟩
  case round =>
    obtain ⟨j, v, f, hj, rfl, hb, hO, hG⟩ := hrel
    have hbw : Below w.heap.size w wr := Below.trans ((((Below.refl _ _).alloc (Nat.le_refl _) _).alloc (by simp) _).alloc (by simp; omega) _) (hb.mono (by omega))
    obtain ⟨bX, bR⟩ := boxes_outC hb
    have x0 : wr.cell? ⟨w.heap.size, 0, none⟩ = some (.int .i64 k) := by rw [cell_of_block bX]; rfl
    have x1 : wr.cell? ⟨w.heap.size, 1, none⟩ = some (.int .i64 g) := by rw [cell_of_block bX]; rfl
    have x2 : wr.cell? ⟨w.heap.size, 2, none⟩ = some (.int .i64 l) := by rw [cell_of_block bX]; rfl
    have x3 : wr.cell? ⟨w.heap.size, 3, none⟩ = some (.slice a ts.length cap) := by rw [cell_of_block bX]; rfl
    have y0 : wr.cell? ⟨w.heap.size + 1 + 1, 0, none⟩ = some (.int .i64 k) := by rw [cell_of_block hO]; rfl
    have y1 : wr.cell? ⟨w.heap.size + 1 + 1, 1, none⟩ = some (.int .i64 g) := by rw [cell_of_block hO]; rfl
    have y2 : wr.cell? ⟨w.heap.size + 1 + 1, 2, none⟩ = some (.int .i64 l) := by rw [cell_of_block hO]; rfl
    have y3 : wr.cell? ⟨w.heap.size + 1 + 1, 3, none⟩ = some v := by rw [cell_of_block hO]; rfl
    by_cases hlk : j < ts.length
    · obtain ⟨b, o, k1, g1, l1, n1, a1, cap1, f1, rfl, hblt, c0, c1, c2, c3, hat, hf⟩ := HG.out j hlk
      have d0 := (hbw.cell (p := ⟨b, o + j * 4, none⟩) hblt).trans c0
      have d1 := (hbw.cell (p := ⟨b, o + j * 4 + 1, none⟩) hblt).trans c1
      have d2 := (hbw.cell (p := ⟨b, o + j * 4 + 2, none⟩) hblt).trans c2
      have d3 := (hbw.cell (p := ⟨b, o + j * 4 + 3, none⟩) hblt).trans c3
      have hle := ccnt_mem (List.getElem_mem hlk)
      have hle2 : ts[j].cnt ≤ 1048576 := by have := HN.out; omega
      have hj0 : (0 : Int) ≤ (j : Int) := by omega
      have hj1 : (j : Int) < (ts.length : Int) := by omega
      have hM : w.heap.size + 1 + 1 < wr.heap.size := lt_of_block hO
      clear c0 c1 c2 c3 hle bX bR
      go_wp2_with fail
      have hlen : (ts.take j).length = j := by rw [List.length_take]; omega
      have HLEN := hid hlen
      clear hlen
      have hmx : j + 1 ≤ maxLen := by unfold maxLen; omega
      have hby : (j + 1) * 48 ≤ 140737488355328 := by have := HN.out; omega
      go_region_law (first
        | (refine step_append_lies _ (by rfl) _ _ _ (by rfl) (w.heap.size + 1 + 1 + 1) 44 i0 _ 4 48 Try.underElemsC hi0 hz0 hz1 hz2 rfl (by omega) v j xs (by rfl) (ho2.alloc _) ⟨w1.heap.size, 0, none⟩ 1 1 [.int .i64 k2, .int .i64 g2, .int .i64 l2, .slice a2 n2 cap2] (by rfl) (by rfl) (World.news_of_block (cs := #[.int .i64 k2, .int .i64 g2, .int .i64 l2, .slice a2 n2 cap2]) (t := 44) (fr := (0, 0)) (heap_alloc_new w1 _)) (by simp [Value.oneCell']) (by omega) hmx hby (by simp; omega) (w1.heap.size + 1) (by simp) ?_; intro gg cp w3 hown3 hgrow hat3 hlt3; have hO3 := grow_keep hgrow ((Below.heap_alloc _ _ _ hM1).trans hO1) (own_ne4 ho2 (by omega)); have z1 := (cell_of_block (o := 3) hO3); have z2 := (frozen_of_block (o := 3) hO3))
        | (go_simp; go_at_call 52; refine (HIH.out _ (List.getElem_mem hlk) _ _ _ (hat.below hbw.drew) hle2).mono ?_; rintro e w1 ⟨v1, f', rfl, hat', hf', hb1⟩; obtain ⟨k2, g2, l2, n2, a2, cap2, rfl⟩ := hat'.agg; have hbd := below_trans (below_drew wr) hb1; have x0' := cell_keep x0 hbd; have x1' := cell_keep x1 hbd; have x2' := cell_keep x2 hbd; have x3' := cell_keep x3 hbd; have y0' := cell_keep y0 hbd; have y1' := cell_keep y1 hbd; have y2' := cell_keep y2 hbd; have y3' := cell_keep y3 hbd; have d0' := cell_keep d0 hbd; have d1' := cell_keep d1 hbd; have d2' := cell_keep d2 hbd; have d3' := cell_keep d3 hbd; obtain ⟨xs, ho1, ha1, hf1, hn1⟩ := hG.below hbd; have ho2 := ho1; rw [HLEN.out] at ho2; have hO1 := (hbd.block _ hM).trans hO; have hM1 := lt_of_block hO1))
      all_goals
        have hG3 := GrowC.step (w2 := w1.alloc (Obj.cells #[.int .i64 k2, .int .i64 g2, .int .i64 l2, .slice a2 n2 cap2] 44)) ha1 hf1 hn1 hG.block.1 hG.block.2 (by omega) hat' hf' ((Below.refl _ _).alloc (Nat.le_refl _) _) hgrow hown3 (by rw [HLEN.out]) (by simpa using hat3)
        have hw3 : Below (w.heap.size + 1 + 1) w1 w3 := ((Below.refl _ _).alloc (by omega) _).grown hgrow (by simp; omega) (fun b hb => by have := (ho2.lt b hb).1; omega)
        have hbb := (hb.trans (hbd.mono (by omega))).trans hw3
        rw [← ctake_succ hlk] at hG3
        clear hO1 hO ha1 hf1 hn1 hat' hf' hgrow hown3 hat3 hlt3 ho1 ho2 hb hbd hw3 hbw hG z1 z2 x0 x1 x2 x3 y0 y1 y2 y3 x0' x1' x2' x3' y0' y1' y2' y3' d0' d1' d2' d3' d0 d1 d2 d3
        go_wp2_with fail
        refine ⟨⟨j + 1, _, _, by omega, by go_num, hbb.setCell (p := ⟨w.heap.size + 1 + 1, 3, none⟩) (Nat.le_refl _) _, ?_, hG3.setCell (p := ⟨w.heap.size + 1 + 1, 3, none⟩) (by simp) _⟩, by simp [intOf]; omega⟩
        rw [heap_setCell_at hO3]
        rfl
    · obtain ⟨a', cap', rfl⟩ := hG.shape
      obtain ⟨fp', hs', hf'⟩ := hG.done (by unfold maxLen; rw [List.length_take]; omega)
      have hz : (ts.take j) = ts := List.take_of_length_le (by omega)
      rw [hz] at hs' y3
      have r0 : wr.cell? ⟨w.heap.size + 1, 0, none⟩ = some (.int .i64 0) := by rw [cell_of_block bR]; rfl
      have r1 : wr.cell? ⟨w.heap.size + 1, 1, none⟩ = some (.int .i64 0) := by rw [cell_of_block bR]; rfl
      have r2 : wr.cell? ⟨w.heap.size + 1, 2, none⟩ = some (.int .i64 0) := by rw [cell_of_block bR]; rfl
      have r3 : wr.cell? ⟨w.heap.size + 1, 3, none⟩ = some (.slice none 0 0) := by rw [cell_of_block bR]; rfl
      have rz := fun o => frozen_of_block (o := o) bR
      have hM : w.heap.size + 1 + 1 < wr.heap.size := lt_of_block hO
      have hab := ((((Above.refl (w.heap.size + 1 + 1 + 1) wr).setCell (p := ⟨w.heap.size + 1, 0, none⟩) (by simp) (.int .i64 k)).setCell (p := ⟨w.heap.size + 1, 1, none⟩) (by simp) (.int .i64 g)).setCell (p := ⟨w.heap.size + 1, 2, none⟩) (by simp) (.int .i64 l)).setCell (p := ⟨w.heap.size + 1, 3, none⟩) (by simp) (.slice a' ts.length cap')
      have hbb := (((hbw.setCell (p := ⟨w.heap.size + 1, 0, none⟩) (by simp) (.int .i64 k)).setCell (p := ⟨w.heap.size + 1, 1, none⟩) (by simp) (.int .i64 g)).setCell (p := ⟨w.heap.size + 1, 2, none⟩) (by simp) (.int .i64 l)).setCell (p := ⟨w.heap.size + 1, 3, none⟩) (by simp) (.slice a' ts.length cap')
      have hst := hs'.above hab (fun b hb => hf'.ge b hb)
      have hft := (hf'.above hab (Nat.le_refl _)).mono (B' := w.heap.size) (by omega)
      clear hs' hz hG hO hb
      go_wp2_with fail
      exact bodyPost_ret (v := .agg #[.int .i64 k, .int .i64 g, .int .i64 l, .slice a' ts.length cap']) (by simp [results, Try.results52, go_sem, r0, r1, r2, r3]) rfl ⟨_, fp', rfl, Co.at_mk.2 ⟨_, rfl, hst⟩, hft, hbb⟩

theorem l6Copy_any : ∀ t : Co, CcC t := Co.ind l6Copy_of

end Go.Proofs.Ytgekfnodmgkdaaa

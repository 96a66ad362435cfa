/- Draws: a type that is sometimes made invalid (l1Mutate). -/
import Derived.Deep.RegionLaw
import Derived.Test.YtolhfcpmhhhjpaaSDr3
import Derived.Test.YtolhfcpmhhhjpaaSDr4
import Derived.Test.YtolhfcpmhhhjpaaSG1
namespace Go.Proofs.Ytolhfcpmhhhjpaa
open Go.RowKit

theorem GrowT.lower {B B' : Nat} {ds : List Ty} {v : Value} {fp : List Nat} {w : World} (h : GrowT B ds v fp w) (hB : B' ≤ B) : GrowT B' ds v fp w := by
  obtain ⟨xs, h1, h2, h3, h4⟩ := h
  refine ⟨xs, ⟨h1.1, ?_⟩, h2, h3.mono hB, h4⟩
  rcases h1.2 with h | ⟨g, cap, cur, e1, e2, e3⟩
  · exact .inl h
  · exact .inr ⟨g, cap, cur, e1, Nat.le_trans hB e2, e3⟩

theorem GrowT.done2 {B : Nat} {ds : List Ty} {v : Value} {fp : List Nat} {w : World} (h : GrowT B ds v fp w) (hm : ds.length ≤ maxLen) : ∃ fp', SlAt w ds v fp' ∧ Fresh B w fp' ∧ ∀ b ∈ fp', b ∈ fp ∨ v.ownBlock = some b := by
  obtain ⟨xs, ho, ha, hf, hn⟩ := h
  rcases ho.2 with ⟨rfl, h0⟩ | ⟨g, cap, cur, rfl, hb, hg, hc, hmx, hsz, hx⟩
  · exact ⟨[], .inl ⟨List.length_eq_zero_iff.1 h0, rfl, none, 0, rfl⟩, Fresh.nil _ _, by simp⟩
  · by_cases h0 : ds.length = 0
    · exact ⟨[], .inl ⟨List.length_eq_zero_iff.1 h0, rfl, _, _, by rw [h0]⟩, Fresh.nil _ _, by simp⟩
    · have hcell : ∀ j u, xs[j]? = some u → w.cell? ⟨g, 0 + j, none⟩ = some u := fun j u hj => by
        rw [Nat.zero_add, cell_of_block hg, ← hj, ← hx, List.getElem?_take]
        have : j < xs.length := (List.getElem?_eq_some_iff.1 hj).1
        rw [if_pos (by rw [ho.1] at this; exact this)]
        simp
      refine ⟨g :: fp, .inr ⟨g, 0, cap, fp, rfl, by omega, hc, hm, ha.atL hcell, rfl⟩, ⟨List.nodup_cons.2 ⟨hn g rfl, hf.1⟩, fun b hb' => ?_⟩, fun b hb' => ?_⟩
      · rcases List.mem_cons.1 hb' with rfl | hb'
        · exact ⟨hb, lt_of_block hg, fun o => frozen_of_block hg⟩
        · exact hf.2 b hb'
      · rcases List.mem_cons.1 hb' with rfl | hb'
        · exact .inr rfl
        · exact .inl hb'

set_option maxRecDepth 100000 in
set_option maxHeartbeats 1600000 in
theorem l1CopyG (k : Int) (ts : List Ty) (v : Value) (fp : List Nat) (w : World) (hat : (Ty.mk k ts).At w v fp) (hn : (Ty.mk k ts).cnt ≤ 1048576) : Calls Try.prog 101 #[v] w (fun e w' => ∃ s g, e = .returned (.agg #[.int .i64 k, s]) ∧ GrowT w.heap.size ts s g w' ∧ Below w.heap.size w w') := by
  have ih : ∀ t ∈ ts, CpC t := fun t _ => l1Copy_any t
  have HIH := hid ih
  clear ih
  obtain ⟨s, rfl, hs⟩ := Ty.at_mk.1 hat
  obtain ⟨a, cap, rfl, hc, hm, hget⟩ := hs.openA
  have HG := hid hget
  have HN := hid (show ts.length + cntL ts ≤ 1048576 by simpa only [Ty.cnt] using hn)
  obtain ⟨i0, hi0, hz0, hz1, hz2⟩ := info_parts (P := Try.prog) (e := 25) Try.infoElem
  clear hget hat hs hn
  go_enter Try.func101, Try.ntmps101
  go_wp2_with fail
  go_loopw [4] (fun i wr => ∃ (j : Nat) (v : Value) (f : List Nat), j ≤ ts.length ∧ i = .int .i64 j ∧ Below (w.heap.size + 1 + 1) (((w.alloc (Obj.cells #[.int .i64 k, .slice a ts.length cap] 25)).alloc (Obj.cells #[.int .i64 0, .slice none 0 0] 25)).alloc (Obj.cells #[.int .i64 k, .slice none 0 0] 25)) wr ∧ wr.heap[w.heap.size + 1 + 1]? = some (.cells #[.int .i64 k, v] 25 (0, 0)) ∧ GrowT (w.heap.size + 1 + 1 + 1) (ts.take j) v f wr)
    (fun i _ => ts.length - (intOf i).toNat)
  case atStart =>
    have hs : ((w.alloc (Obj.cells #[.int .i64 k, .slice a ts.length cap] 25)).alloc (Obj.cells #[.int .i64 0, .slice none 0 0] 25)).heap.size = w.heap.size + 1 + 1 := by simp
    exact ⟨0, .slice none 0 0, [], Nat.zero_le _, rfl, Below.refl _ _, by rw [← hs]; exact alloc_new _ _, GrowT.zero _ _⟩
  case round =>
    obtain ⟨j, v, f, hj, rfl, hb, hO, hG⟩ := hrel
    have hbw : Below w.heap.size w wr := Below.trans ((((Below.refl _ _).alloc (Nat.le_refl _) _).alloc (by simp) _).alloc (by simp; omega) _) (hb.mono (by omega))
    obtain ⟨x0, x1, r0, r1, rz⟩ := boxes_out hb
    have y0 : wr.cell? ⟨w.heap.size + 1 + 1, 0, none⟩ = some (.int .i64 k) := by rw [cell_of_block hO]; rfl
    have y1 : wr.cell? ⟨w.heap.size + 1 + 1, 1, none⟩ = some v := by rw [cell_of_block hO]; rfl
    by_cases hlk : j < ts.length
    · obtain ⟨b, o, k1, n1, a1, cap1, g1, rfl, hblt, c0, c1, hat, hf⟩ := HG.out j hlk
      have d0 := (hbw.cell (p := ⟨b, o + j * 2, none⟩) hblt).trans c0
      have d1 := (hbw.cell (p := ⟨b, o + j * 2 + 1, none⟩) hblt).trans c1
      have hle := cnt_mem (List.getElem_mem hlk)
      have hle2 : ts[j].cnt ≤ 1048576 := by have := HN.out; omega
      have hj0 : (0 : Int) ≤ (j : Int) := by omega
      have hj1 : (j : Int) < (ts.length : Int) := by omega
      have hM : w.heap.size + 1 + 1 < wr.heap.size := lt_of_block hO
      clear c0 c1 hle
      go_wp2_with fail
      have hlen : (ts.take j).length = j := by rw [List.length_take]; omega
      have HLEN := hid hlen
      clear hlen
      have hmx : j + 1 ≤ maxLen := by unfold maxLen; omega
      have hby : (j + 1) * 32 ≤ 140737488355328 := by have := HN.out; omega
      go_region_law (first
        | (refine step_append_lies _ (by rfl) _ _ _ (by rfl) (w.heap.size + 1 + 1 + 1) 25 i0 _ 2 32 Try.underElems hi0 hz0 hz1 hz2 rfl (by omega) v j xs (by rfl) (ho2.alloc _) ⟨w1.heap.size, 0, none⟩ 1 1 [.int .i64 k2, .slice a2 n2 cap2] (by rfl) (by rfl) (World.news_of_block (cs := #[.int .i64 k2, .slice a2 n2 cap2]) (t := 25) (fr := (0, 0)) (heap_alloc_new w1 _)) (by simp [Value.oneCell']) (by omega) hmx hby (by simp; omega) (w1.heap.size + 1) (by simp) ?_; intro g cp w3 hown3 hgrow hat3 hlt3; have hO3 := grow_keep hgrow ((Below.heap_alloc _ _ _ hM1).trans hO1) (own_ne ho2 (by omega)); have z1 := (cell_of_block (o := 1) hO3); have z2 := (frozen_of_block (o := 1) hO3))
        | (go_simp; go_at_call 101; refine (HIH.out _ (List.getElem_mem hlk) _ _ _ (hat.below hbw.drew) hle2).mono ?_; rintro e w1 ⟨v1, f', rfl, hat', hf', hb1⟩; obtain ⟨k2, n2, a2, cap2, rfl⟩ := hat'.agg; have hbd := below_trans (below_drew wr) hb1; have x0' := cell_keep x0 hbd; have x1' := cell_keep x1 hbd; have y1' := cell_keep y1 hbd; have y0' := cell_keep y0 hbd; have d0' := cell_keep d0 hbd; have d1' := cell_keep d1 hbd; obtain ⟨xs, ho1, ha1, hf1, hn1⟩ := hG.below hbd; have ho2 := ho1; rw [HLEN.out] at ho2; have hO1 := (hbd.block _ hM).trans hO; have hM1 := lt_of_block hO1))
      all_goals
        have hG3 := GrowT.step (w2 := w1.alloc (Obj.cells #[.int .i64 k2, .slice a2 n2 cap2] 25)) ha1 hf1 hn1 hG.block.1 hG.block.2 (by omega) hat' hf' ((Below.refl _ _).alloc (Nat.le_refl _) _) hgrow hown3 (by rw [HLEN.out]) (by simpa using hat3)
        have hw3 : Below (w.heap.size + 1 + 1) w1 w3 := ((Below.refl _ _).alloc (by omega) _).grown hgrow (by simp; omega) (fun b hb => by have := (ho2.lt b hb).1; omega)
        have hbb := (hb.trans (hbd.mono (by omega))).trans hw3
        rw [← take_succ hlk] at hG3
        clear hO1 hO ha1 hf1 hn1 hat' hf' hgrow hown3 hat3 hlt3 ho1 ho2 hb hbd hw3 hbw hG z1 z2 x0 x1 y0 y1 x0' x1' y0' y1' d0 d1 d0' d1' r0 r1 rz
        go_wp2_with fail
        refine ⟨⟨j + 1, _, _, by omega, by go_num, hbb.setCell (p := ⟨w.heap.size + 1 + 1, 1, none⟩) (Nat.le_refl _) _, ?_, hG3.setCell (p := ⟨w.heap.size + 1 + 1, 1, none⟩) (by simp) _⟩, by simp [intOf]; omega⟩
        rw [heap_setCell_at hO3]
        rfl
    · have hz : (ts.take j) = ts := List.take_of_length_le (by omega)
      rw [hz] at hG
      have hM : w.heap.size + 1 + 1 < wr.heap.size := lt_of_block hO
      have HGF := hid (((hG.setCell (p := ⟨w.heap.size + 1, 0, none⟩) (by show w.heap.size + 1 < _; omega) (.int .i64 k)).setCell (p := ⟨w.heap.size + 1, 1, none⟩) (by show w.heap.size + 1 < _; omega) v).lower (B' := w.heap.size) (by omega))
      have hbb := (hbw.setCell (p := ⟨w.heap.size + 1, 0, none⟩) (by simp) (.int .i64 k)).setCell (p := ⟨w.heap.size + 1, 1, none⟩) (by simp) v
      obtain ⟨a', cap', rfl⟩ := hG.shape
      clear hz hG hO hb
      go_wp2_with fail
      exact bodyPost_ret (v := .agg #[.int .i64 k, .slice a' ts.length cap']) (by simp [results, Try.results101, go_sem, r0, r1]) rfl ⟨_, _, rfl, HGF.out, hbb⟩

theorem cnt_append1 (k : Int) (ts : List Ty) : (Ty.mk k (ts ++ [.mk 1 []])).cnt ≤ (Ty.mk k ts).cnt + 8 := by
  have h := cntL_app ts [.mk 1 []]
  simp only [Ty.cnt, cntL, List.length_append, List.length_cons, List.length_nil] at h ⊢
  omega

theorem cnt_fun1 (t : Ty) : (Ty.mk 4 [.mk 1 [], t]).cnt = t.cnt + 2 := by
  simp only [Ty.cnt, cntL, List.length_cons, List.length_nil]
  omega

set_option linter.unusedSimpArgs false in
set_option maxRecDepth 100000 in
set_option maxHeartbeats 8000000 in
theorem l1Mutate_any (t0 : Ty) (M q : Nat) (v : Value) (fp : List Nat) (w : World) (hR0 : RdAt M q w) (hq : q + 10 ≤ 1000000) (hat : t0.At w v fp) (_hfp : ∀ b ∈ fp, b ≠ M) (hcn : t0.cnt ≤ 1000) : Calls Try.prog 65 #[.pointer (some ⟨M, 0, none⟩), v] w (DrawX M (q + 10) w (fun t => t.cnt ≤ t0.cnt + 8)) := by
  obtain ⟨k, ts, rfl⟩ := t0.shape
  have HTL := hid (show ts.length ≤ 1000 by simp only [Ty.cnt] at hcn; omega)
  obtain ⟨i0, hi0, hz0, hz1, hz2⟩ := info_parts (P := Try.prog) (e := 25) Try.infoElem
  have hat0 := hat
  obtain ⟨s, rfl, hs⟩ := Ty.at_mk.1 hat
  obtain ⟨a, cap, rfl⟩ := hs.shape
  have hMw := hR0.lt
  have hbA : Below w.heap.size w ((w.alloc (Obj.cells #[.int .i64 k, .slice a ts.length cap] 25)).alloc (Obj.cells #[.int .i64 0, .slice none 0 0] 25)) := ((Below.refl _ _).alloc (Nat.le_refl _) _).alloc (by simp) _
  have HRA := hid (hR0.rw hbA)
  have HBA := hid hbA
  have HCP := hid (l1CopyG k ts _ fp ((w.alloc (Obj.cells #[.int .i64 k, .slice a ts.length cap] 25)).alloc (Obj.cells #[.int .i64 0, .slice none 0 0] 25)) (hat0.below hbA) (by omega))
  obtain ⟨hE0, hE1⟩ := two9 (Below.refl (((w.alloc (Obj.cells #[.int .i64 k, .slice a ts.length cap] 25)).alloc (Obj.cells #[.int .i64 0, .slice none 0 0] 25))).heap.size ((w.alloc (Obj.cells #[.int .i64 k, .slice a ts.length cap] 25)).alloc (Obj.cells #[.int .i64 0, .slice none 0 0] 25)))
  obtain ⟨x0, x1⟩ : (((w.alloc (Obj.cells #[.int .i64 k, .slice a ts.length cap] 25)).alloc (Obj.cells #[.int .i64 0, .slice none 0 0] 25))).cell? ⟨w.heap.size, 0, none⟩ = some (.int .i64 k) ∧ (((w.alloc (Obj.cells #[.int .i64 k, .slice a ts.length cap] 25)).alloc (Obj.cells #[.int .i64 0, .slice none 0 0] 25))).cell? ⟨w.heap.size, 1, none⟩ = some (.slice a ts.length cap) := ⟨by rw [cell_of_block hE0]; rfl, by rw [cell_of_block hE0]; rfl⟩
  have HE1 := hid hE1
  have hsz : (((w.alloc (Obj.cells #[.int .i64 k, .slice a ts.length cap] 25)).alloc (Obj.cells #[.int .i64 0, .slice none 0 0] 25))).heap.size = w.heap.size + 1 + 1 := by simp
  rw [hsz] at HCP
  clear hbA hR0 hat0 hs hat hE0 hE1
  go_enter Try.func65, Try.ntmps65
  go_wp2_with fail
  refine HCP.out.mono ?_
  rintro e w1 ⟨v1, gC, rfl, hG1, hb1⟩
  obtain ⟨a', cap', rfl⟩ := hG1.shape
  have hb1' : Below (((w.alloc (Obj.cells #[.int .i64 k, .slice a ts.length cap] 25)).alloc (Obj.cells #[.int .i64 0, .slice none 0 0] 25))).heap.size ((w.alloc (Obj.cells #[.int .i64 k, .slice a ts.length cap] 25)).alloc (Obj.cells #[.int .i64 0, .slice none 0 0] 25)) w1 := by rw [hsz]; exact hb1
  have hws1 : w.heap.size + 1 + 1 ≤ w1.heap.size := by have := hb1'.size; simp at this; exact this
  have hal : Below w1.heap.size w1 (w1.alloc (Obj.cells #[.int .i64 k, .slice a' ts.length cap'] 25)) := (Below.refl _ _).alloc (Nat.le_refl _) _
  have hb2 := below_trans hb1' hal
  have HGB := hid hG1.block.1
  have HGO := hid hG1.block.2
  have HRB := hid (HRA.out.rw hb2)
  have HWB := hid ((Rw.of_below HBA.out hMw).trans (Rw.of_below hb2 HRA.out.lt))
  have HEB := hid ((hb2.block _ (lt_of_block HE1.out)).trans HE1.out)
  have HOB := hid (alloc_new w1 (Obj.cells #[.int .i64 k, .slice a' ts.length cap'] 25))
  have HGB1 := hid (hG1.below hal)
  have HP := hid (pick_any M q 40 _ HRB.out (by omega) (by omega) (by omega))
  clear hG1 hb1 hb1' hal hb2 x0 x1 HCP
  go_wp2_with fail
  refine HP.out.mono ?_
  rintro e w2 ⟨i, rfl, ⟨hi0', hi40⟩, hR2, hW2⟩
  have hO2 := hW2.block HOB.out (by omega)
  have hER2 := hW2.block HEB.out (by omega)
  have hG2 := HGB1.out.rw (M := M) (by omega) hW2
  have hs2 : w1.heap.size < w2.heap.size := lt_of_block hO2
  have HR2 := hid hR2
  have HW2 := hid (HWB.out.trans hW2)
  obtain ⟨fpC, hsC, hfC, hmC⟩ := hG2.done2 (by have := HTL.out; unfold maxLen; omega)
  have HNE := hid (show ∀ b ∈ fpC, b ≠ w1.heap.size from fun b hb e => by
    rcases hmC b hb with h | h
    · have := HGB.out b h; omega
    · have := HGO.out b h; omega)
  have HATC := hid (show (Ty.mk k ts).At w2 (.agg #[.int .i64 k, .slice a' ts.length cap']) fpC from Ty.at_mk.2 ⟨_, rfl, hsC⟩)
  have HSC := hid hsC
  have HFC := hid hfC
  have y0 : w2.cell? ⟨w1.heap.size, 0, none⟩ = some (.int .i64 k) := by rw [cell_of_block hO2]; rfl
  have y1 : w2.cell? ⟨w1.heap.size, 1, none⟩ = some (.slice a' ts.length cap') := by rw [cell_of_block hO2]; rfl
  have yz : ∀ o, w2.frozen? ⟨w1.heap.size, o, none⟩ = false := fun o => frozen_of_block hO2
  clear hR2 hW2 hsC hfC hmC
  by_cases h0 : i = 0
  · subst h0
    have hI : Below w2.heap.size w2 (w2.alloc (Obj.cells #[.int .i64 0, .int .i64 6, .int .i64 1, .int .i64 4, .int .i64 (-1)] 3)) := (Below.refl _ _).alloc (Nat.le_refl _) _
    have hEI := alloc_new w2 (Obj.cells #[.int .i64 0, .int .i64 6, .int .i64 1, .int .i64 4, .int .i64 (-1)] 3)
    have HN := hid (num_any M (q + 1) w2.heap.size [0, 6, 1, 4, -1] _ (HR2.out.rw hI) (by omega) (by omega) (fun j hj => by
      rw [cell_of_block hEI]
      have : j = 0 ∨ j = 1 ∨ j = 2 ∨ j = 3 ∨ j = 4 := by simp at hj; omega
      rcases this with rfl | rfl | rfl | rfl | rfl <;> rfl) (by simp) (by simp))
    have HI := hid hI
    clear hEI hG2 hI
    go_wp2_with fail
    refine HN.out.mono ?_
    rintro e w3 ⟨x, rfl, -, hR3, hW3⟩
    have hW23 := (Rw.of_below HI.out HR2.out.lt).trans hW3
    have hO3 := hW23.block hO2 (by omega)
    have z0 := (cell_of_block (o := 0) hO3)
    have zz := fun o => frozen_of_block (o := o) hO3
    have HR3 := hid (hR3.below1 ((Below.refl (M + 1) w3).setCell (p := ⟨w1.heap.size, 0, none⟩) (by show M + 1 ≤ w1.heap.size; omega) (.int .i64 x)))
    have HW3 := hid ((HW2.out.trans hW23).tail ((Below.refl w.heap.size w3).setCell (p := ⟨w1.heap.size, 0, none⟩) (by show w.heap.size ≤ w1.heap.size; omega) (.int .i64 x)) hMw)
    have HE3 := hid ((Below.heap_setCell w3 ⟨w1.heap.size, 0, none⟩ (.int .i64 x) (w.heap.size + 1) (by show w.heap.size + 1 ≠ w1.heap.size; omega)).trans (hW23.block hER2 (by omega)))
    have HAT3 := hid (show (Ty.mk x ts).At (w3.setCell ⟨w1.heap.size, 0, none⟩ (.int .i64 x)) (.agg #[.int .i64 x, .slice a' ts.length cap']) fpC from (hW23.at (t := .mk x ts) (Ty.at_mk.2 ⟨_, rfl, HSC.out⟩) (fun b hb => by have := HFC.out.ge b hb; omega)).setCell (a := ⟨w1.heap.size, 0, none⟩) HNE.out _)
    have HF3 := hid ((hW23.fresh HFC.out (by omega)).setCell (a := ⟨w1.heap.size, 0, none⟩) HNE.out (.int .i64 x))
    have hO4 := heap_setCell_at (o := 0) hO3 (.int .i64 x)
    have u0 : (w3.setCell ⟨w1.heap.size, 0, none⟩ (.int .i64 x)).cell? ⟨w1.heap.size, 0, none⟩ = some (.int .i64 x) := by rw [cell_of_block hO4]; rfl
    have u1 : (w3.setCell ⟨w1.heap.size, 0, none⟩ (.int .i64 x)).cell? ⟨w1.heap.size, 1, none⟩ = some (.slice a' ts.length cap') := by rw [cell_of_block hO4]; rfl
    have hEz := HE3.out
    have r0 : (w3.setCell ⟨w1.heap.size, 0, none⟩ (.int .i64 x)).cell? ⟨w.heap.size + 1, 0, none⟩ = some (.int .i64 0) := by rw [cell_of_block hEz]; rfl
    have r1 : (w3.setCell ⟨w1.heap.size, 0, none⟩ (.int .i64 x)).cell? ⟨w.heap.size + 1, 1, none⟩ = some (.slice none 0 0) := by rw [cell_of_block hEz]; rfl
    have rz : ∀ o, (w3.setCell ⟨w1.heap.size, 0, none⟩ (.int .i64 x)).frozen? ⟨w.heap.size + 1, o, none⟩ = false := fun o => frozen_of_block hEz
    have HCF := hid (show (Ty.mk x ts).cnt ≤ (Ty.mk k ts).cnt + 8 by simp only [Ty.cnt]; omega)
    have HF := hid (dr_close (R := w.heap.size + 1) (t := .mk x ts) (x := .int .i64 x) (y := .slice a' ts.length cap') HAT3.out HF3.out (HR3.out.mono (q' := q + 10) (by omega)) HW3.out hMw (by omega) (by omega))
    clear hEz hO3 hO4 hR3 hW3 hW23 hO2 hER2 y0 y1
    go_upto_region 12 with (fail)
    generalize hWS : w3.setCell ⟨w1.heap.size, 0, none⟩ (.int .i64 x) = w5 at *
    clear hWS
    go_wp2_with fail
    exact bodyPost_ret (v := .agg #[.int .i64 x, .slice a' ts.length cap']) (by simp [results, Try.results65, go_sem, r0, r1]) rfl ⟨_, _, _, rfl, HCF.out, HF.out.1, HF.out.2.1, HF.out.2.2.1, HF.out.2.2.2⟩
  have h0' : (i == 0) = false := by rw [beq_eq_false_iff_ne]; exact h0
  by_cases h1 : i = 1
  · subst h1
    have HS0 := hid (show ∀ w', Below w2.heap.size w2 w' → (fun w' => w'.cell? ⟨w1.heap.size, 1, none⟩ = some (.slice a' ts.length cap')) w' from fun w' h => cell_keep y1 h)
    have hOne : some w1.heap.size ≠ (Value.slice a' ts.length cap').ownBlock := fun e => by have := HGO.out _ e.symm; omega
    have hTL := HTL.out
    clear y0 h0
    go_wp2_with fail
    refine regionL (s := 6) (S0 := (fun w' => w'.cell? ⟨w1.heap.size, 1, none⟩ = some (.slice a' ts.length cap'))) (S1 := (fun _ => True)) (by kernel_rfl) (HS0.out _ (below_drew _)) (trivial) (fun hS0 => ?_)
    refine takeL0 (i := 0) (v := ?va1) rfl rfl (by kernel_rfl) (by kernel_rfl) (by kernel_rfl) (by decide) (by kernel_rfl) (by kernel_rfl) (fun _ _ _ h => h) (Or.inl ⟨by rfl, ?hya1⟩) (by assumption) ?_
    case hya1 => (intro w hSw; (try dsimp only at hSw); go_simp; (try with_reducible rfl))
    try simp only [Act.put, List.setIfInBounds_toArray, List.set_cons_zero, List.set_cons_succ]
    refine takeL0 (i := 1) (v := ?va2) rfl rfl (by kernel_rfl) (by kernel_rfl) (by kernel_rfl) (by decide) (by kernel_rfl) (by kernel_rfl) (fun _ _ _ h => h) (Or.inl ⟨by rfl, ?hya2⟩) (by assumption) ?_
    case hya2 => (intro w hSw; (try dsimp only at hSw); go_simp; (try with_reducible rfl))
    try simp only [Act.put, List.setIfInBounds_toArray, List.set_cons_zero, List.set_cons_succ]
    refine readyL (rs := [2]) (by kernel_rfl) (by simp) ?_
    refine AllReadyL.cons rfl (fun K hK => ?_) AllReadyL.nil
    go_simp
    refine (l1Any_any _).mono ?_
    rintro e w3 ⟨rfl, hb3⟩
    have hbd := below_trans (below_drew w2) hb3
    have hbs := hbd.size
    obtain ⟨xs, ho1, ha1, hf1, hn1⟩ := hG2.below hbd
    have ho2 := ho1
    have hA3 : Below w3.heap.size w3 (w3.alloc (Obj.cells #[.int .i64 1, .slice none 0 0] 25)) := (Below.refl _ _).alloc (Nat.le_refl _) _
    refine hK.out _ _ ?_ (fun hS1 => ?_)
    · exact ⟨trivial, fun _ => HS0.out _ hbd⟩
    clear hK K hS0
    try simp only [Act.put, List.setIfInBounds_toArray, List.set_cons_zero, List.set_cons_succ]
    refine readyL (rs := [3]) (by kernel_rfl) (by simp) ?_
    refine AllReadyL.cons rfl (fun K hK => ?_) AllReadyL.nil
    go_simp
    refine hK.out _ _ ?_ (fun hS2 => ?_)
    · exact ⟨trivial, fun _ => HS0.out _ (below_trans hbd hA3)⟩
    clear hK K hS1
    try simp only [Act.put, List.setIfInBounds_toArray, List.set_cons_zero, List.set_cons_succ]
    refine readyL (rs := [4]) (by kernel_rfl) (by simp) ?_
    refine AllReadyL.cons rfl (fun K hK => ?_) AllReadyL.nil
    refine step_append_lies _ (by rfl) _ _ _ (by rfl) (w.heap.size + 1 + 1) 25 i0 _ 2 32 Try.underElems hi0 hz0 hz1 hz2 rfl (by omega) (.slice a' ts.length cap') ts.length xs (by rfl) (ho2.alloc _) ⟨w3.heap.size, 0, none⟩ 1 1 [.int .i64 1, .slice none 0 0] (by rfl) (by rfl) (World.news_of_block (cs := #[.int .i64 1, .slice none 0 0]) (t := 25) (fr := (0, 0)) (heap_alloc_new w3 _)) (by simp [Value.oneCell']) (by omega) (by unfold maxLen; omega) (by omega) (by simp; omega) (w3.heap.size + 1) (by simp) ?_
    intro g cp w4 hown3 hgrow hat3 hlt3
    have hO3 := (hbd.block _ (lt_of_block hO2)).trans hO2
    have hO4 := grow_keep hgrow ((Below.heap_alloc _ _ _ (lt_of_block hO3)).trans hO3) hOne
    have z1 := (cell_of_block (o := 1) hO4)
    have z2 := (frozen_of_block (o := 1) hO4)
    have HY := hid z1
    refine hK.out _ _ ?_ (fun hS3 => ?_)
    · exact ⟨trivial, fun _ => HY.out⟩
    clear hK K hS2
    try simp only [Act.put, List.setIfInBounds_toArray, List.set_cons_zero, List.set_cons_succ]
    refine takeL0 (i := 5) (v := ?va3) rfl rfl (by kernel_rfl) (by kernel_rfl) (by kernel_rfl) (by decide) (by kernel_rfl) (by kernel_rfl) (fun _ _ _ h => h) (Or.inl ⟨by rfl, ?hya3⟩) (by assumption) ?_
    case hya3 => (intro w hSw; (try dsimp only at hSw); go_simp; (try with_reducible rfl))
    try simp only [Act.put, List.setIfInBounds_toArray, List.set_cons_zero, List.set_cons_succ]
    refine readyL (rs := [6]) (by kernel_rfl) (by simp) ?_
    refine AllReadyL.cons rfl (fun K hK => ?_) AllReadyL.nil
    go_simp
    refine hK.out _ _ ?_ (fun hS4 => ?_)
    · exact ⟨trivial, fun h => absurd (h.symm.trans (show _ = true by kernel_rfl)) (by decide)⟩
    clear hK K hS3
    try simp only [Act.put, List.setIfInBounds_toArray, List.set_cons_zero, List.set_cons_succ]
    refine doneL (by kernel_rfl) ?_ _
    have hG3 := GrowT.step (w := w2) (w2 := w3.alloc (Obj.cells #[.int .i64 1, .slice none 0 0] 25)) (t := .mk 1 []) (f := []) ha1 hf1 hn1 hG2.block.1 hG2.block.2 (by have := hs2; omega) (Ty.at_mk.2 ⟨_, rfl, .inl ⟨rfl, rfl, none, 0, rfl⟩⟩) (Fresh.nil _ _) ((Below.refl _ _).alloc (Nat.le_refl _) _) hgrow hown3 rfl (by simpa using hat3)
    obtain ⟨fp4, hs4, hf4, hm4⟩ := hG3.done2 (by simp [maxLen]; omega)
    have hO4ne : ∀ b ∈ fp4, b ≠ w1.heap.size := fun b hb e => by
      rcases hm4 b hb with h | h
      · have := HGB.out b (by simpa using h); omega
      · have hg : g = b := by simpa [Value.ownBlock] using h
        rcases hat3 with h5 | h5
        · have := HGO.out g h5; omega
        · have h6 := hbd.size; first | omega | (simp at h5; omega)
    have hB4 : Below (w.heap.size + 1 + 1) w3 w4 := ((Below.refl _ _).alloc (by have := hbd.size; omega) _).grown hgrow (by simp; have := hbd.size; omega) (fun b hb => (ho2.lt b hb).1)
    have hB4s := (hB4.setCell (p := ⟨w1.heap.size, 1, none⟩) (by show w.heap.size + 1 + 1 ≤ w1.heap.size; omega) (.slice (some ⟨g, 0, none⟩) (ts.length + 1) cp))
    have HRF := hid (((HR2.out.rw hbd)).below1 (hB4s.mono (by omega)))
    have HWF := hid (((HW2.out.trans (Rw.of_below hbd HR2.out.lt))).tail (hB4s.mono (by omega)) hMw)
    have HEF := hid ((hB4s.block _ (by omega)).trans ((hbd.block _ (lt_of_block hER2)).trans hER2))
    have HATF := hid (show (Ty.mk k (ts ++ [.mk 1 []])).At (w4.setCell ⟨w1.heap.size, 1, none⟩ (.slice (some ⟨g, 0, none⟩) (ts.length + 1) cp)) (.agg #[.int .i64 k, .slice (some ⟨g, 0, none⟩) (ts.length + 1) cp]) fp4 from (Ty.at_mk.2 ⟨_, rfl, hs4⟩ : (Ty.mk k (ts ++ [.mk 1 []])).At w4 _ _).setCell (a := ⟨w1.heap.size, 1, none⟩) hO4ne _)
    have HFRF := hid (hf4.setCell (a := ⟨w1.heap.size, 1, none⟩) hO4ne (.slice (some ⟨g, 0, none⟩) (ts.length + 1) cp))
    have hO5 := heap_setCell_at (o := 1) hO4 (.slice (some ⟨g, 0, none⟩) (ts.length + 1) cp)
    have y0 : (w4.setCell ⟨w1.heap.size, 1, none⟩ (.slice (some ⟨g, 0, none⟩) (ts.length + 1) cp)).cell? ⟨w1.heap.size, 0, none⟩ = some (.int .i64 k) := by rw [cell_of_block hO5]; rfl
    have y1 : (w4.setCell ⟨w1.heap.size, 1, none⟩ (.slice (some ⟨g, 0, none⟩) (ts.length + 1) cp)).cell? ⟨w1.heap.size, 1, none⟩ = some (.slice (some ⟨g, 0, none⟩) (ts.length + 1) cp) := by rw [cell_of_block hO5]; rfl
    clear hO4 hO5 hs4 hf4 hm4 hG3 hB4 hB4s hbd hb3 hown3 hgrow hat3 hlt3 ho1 ho2 ha1 hf1 hn1 z1 z2 hO3 hA3
    generalize w4.setCell ⟨w1.heap.size, 1, none⟩ (.slice (some ⟨g, 0, none⟩) (ts.length + 1) cp) = w5 at *
    have HCF := hid (show Ty.cnt (.mk k (ts ++ [.mk 1 []])) ≤ (Ty.mk k ts).cnt + 8 from cnt_append1 k ts)
    have hEz := HEF.out
    have r0 : (w5).cell? ⟨w.heap.size + 1, 0, none⟩ = some (.int .i64 0) := by rw [cell_of_block hEz]; rfl
    have r1 : (w5).cell? ⟨w.heap.size + 1, 1, none⟩ = some (.slice none 0 0) := by rw [cell_of_block hEz]; rfl
    have rz : ∀ o, (w5).frozen? ⟨w.heap.size + 1, o, none⟩ = false := fun o => frozen_of_block hEz
    have HF := hid (dr_close (R := w.heap.size + 1) (t := .mk k (ts ++ [.mk 1 []])) (x := .int .i64 k) (y := .slice (some ⟨g, 0, none⟩) (ts.length + 1) cp) HATF.out HFRF.out ((HRF.out).mono (q' := q + 10) (by omega)) HWF.out hMw (by omega) (by omega))
    clear hEz 
    go_wp2_with fail
    exact bodyPost_ret (v := .agg #[.int .i64 k, .slice (some ⟨g, 0, none⟩) (ts.length + 1) cp]) (by simp [results, Try.results65, go_sem, r0, r1]) rfl ⟨_, _, _, rfl, HCF.out, HF.out.1, HF.out.2.1, HF.out.2.2.1, HF.out.2.2.2⟩
  have h1' : (i == 1) = false := by rw [beq_eq_false_iff_ne]; exact h1
  by_cases h2 : i = 2
  · subst h2
    have HO2 := hid hO2
    have HER2 := hid hER2
    clear h0 h0' h1 h1' y0 y1 hO2 hER2
    go_wp2_with fail
    go_loopw [6] (fun i wr => ∃ (j : Nat) (t' : Ty) (kz : Int) (nz cz : Nat) (az : Option Addr) (fz : List Nat), (j ≤ 4 ∧ t'.cnt ≤ (Ty.mk k ts).cnt + 2 * j) ∧ i = .int .i64 j ∧ wr.heap[w1.heap.size]? = some (.cells #[.int .i64 kz, .slice az nz cz] 25 (0, 0)) ∧ t'.At wr (.agg #[.int .i64 kz, .slice az nz cz]) fz ∧ Fresh (w.heap.size + 1 + 1) wr fz ∧ (∀ b ∈ fz, b ≠ w1.heap.size) ∧ Below (w.heap.size + 1 + 1) w2 wr) (fun i _ => 4 - (intOf i).toNat)
    case atStart => exact ⟨0, .mk k ts, k, ts.length, cap', a', fpC, ⟨by omega, Nat.le_add_right _ _⟩, rfl, HO2.out, HATC.out, HFC.out, HNE.out, Below.refl _ _⟩
    case round =>
      obtain ⟨j, t', kz, nz, cz, az, fz, ⟨hj, hcj⟩, rfl, hO, hat', hf', hne, hB⟩ := hrel
      have HCJ := hid hcj
      clear hcj
      have y0 : wr.cell? ⟨w1.heap.size, 0, none⟩ = some (.int .i64 kz) := by rw [cell_of_block hO]; rfl
      have y1 : wr.cell? ⟨w1.heap.size, 1, none⟩ = some (.slice az nz cz) := by rw [cell_of_block hO]; rfl
      have hOlt : w1.heap.size < wr.heap.size := lt_of_block hO
      by_cases hlk : j < 4
      · have HS2 := hid (show ∀ w', Below wr.heap.size wr w' → (fun w' => w'.cell? ⟨w1.heap.size, 0, none⟩ = some (.int .i64 kz) ∧ w'.cell? ⟨w1.heap.size, 1, none⟩ = some (.slice az nz cz)) w' from fun w' h => ⟨cell_keep y0 h, cell_keep y1 h⟩)
        have hj4 : (j : Int) < 4 := by omega
        go_wp2_with fail
        refine regionL (s := 4) (S0 := (fun w' => w'.cell? ⟨w1.heap.size, 0, none⟩ = some (.int .i64 kz) ∧ w'.cell? ⟨w1.heap.size, 1, none⟩ = some (.slice az nz cz))) (S1 := (fun _ => True)) (by kernel_rfl) (HS2.out _ (below_drew _)) (trivial) (fun hS0 => ?_)
        refine takeL0 (i := 1) (v := ?vb1) rfl rfl (by kernel_rfl) (by kernel_rfl) (by kernel_rfl) (by decide) (by kernel_rfl) (by kernel_rfl) (fun _ _ _ h => h) (Or.inl ⟨by rfl, ?hyb1⟩) (by assumption) ?_
        case hyb1 => (intro w hSw; (try dsimp only at hSw); go_simp; (try with_reducible rfl))
        try simp only [Act.put, List.setIfInBounds_toArray, List.set_cons_zero, List.set_cons_succ]
        refine readyL (rs := [0]) (by kernel_rfl) (by simp) ?_
        refine AllReadyL.cons rfl (fun K hK => ?_) AllReadyL.nil
        go_simp
        refine (l1Any_any _).mono ?_
        rintro e w3 ⟨rfl, hb3⟩
        have hbd := below_trans (below_drew wr) hb3
        have hbs := hbd.size
        have hA3 : Below w3.heap.size w3 (w3.alloc (Obj.cells #[.int .i64 1, .slice none 0 0, .int .i64 kz, .slice az nz cz] 25)) := (Below.refl _ _).alloc (Nat.le_refl _) _
        refine hK.out _ _ ?_ (fun hS1 => ?_)
        · exact ⟨trivial, fun _ => HS2.out _ hbd⟩
        clear hK K hS0
        try simp only [Act.put, List.setIfInBounds_toArray, List.set_cons_zero, List.set_cons_succ]
        refine readyL (rs := [2]) (by kernel_rfl) (by simp) ?_
        refine AllReadyL.cons rfl (fun K hK => ?_) AllReadyL.nil
        go_simp
        refine hK.out _ _ ?_ (fun hS2 => ?_)
        · exact ⟨trivial, fun _ => HS2.out _ (below_trans hbd hA3)⟩
        clear hK K hS1
        try simp only [Act.put, List.setIfInBounds_toArray, List.set_cons_zero, List.set_cons_succ]
        refine readyL (rs := [3]) (by kernel_rfl) (by simp) ?_
        refine AllReadyL.cons rfl (fun K hK => ?_) AllReadyL.nil
        go_simp
        refine hK.out _ _ ?_ (fun hS3 => ?_)
        · exact ⟨trivial, fun _ => HS2.out _ (below_trans hbd hA3)⟩
        clear hK K hS2
        try simp only [Act.put, List.setIfInBounds_toArray, List.set_cons_zero, List.set_cons_succ]
        refine readyL (rs := [4]) (by kernel_rfl) (by simp) ?_
        refine AllReadyL.cons rfl (fun K hK => ?_) AllReadyL.nil
        have hOn := (hA3.block _ (by omega)).trans ((hbd.block _ hOlt).trans hO)
        have z0 := (cell_of_block (o := 0) hOn)
        have z1 := (cell_of_block (o := 1) hOn)
        have zf := fun o => frozen_of_block (o := o) hOn
        go_simp
        refine hK.out _ _ ?_ (fun hS4 => ?_)
        · exact ⟨trivial, fun h => absurd (h.symm.trans (show _ = true by kernel_rfl)) (by decide)⟩
        clear hK K hS3
        try simp only [Act.put, List.setIfInBounds_toArray, List.set_cons_zero, List.set_cons_succ]
        refine doneL (by kernel_rfl) ?_ _
        have hEn := alloc_new w3 (Obj.cells #[.int .i64 1, .slice none 0 0, .int .i64 kz, .slice az nz cz] 25)
        have hatn := (hat'.below hbd).below hA3
        have hfn := (hf'.below hbd).below hA3
        have HATN := hid (show (Ty.mk 4 [.mk 1 [], t']).At (w3.alloc (Obj.cells #[.int .i64 1, .slice none 0 0, .int .i64 kz, .slice az nz cz] 25)) (.agg #[.int .i64 4, .slice (some ⟨w3.heap.size, 0, none⟩) 2 2]) (w3.heap.size :: ([] ++ (fz ++ []))) from
          Ty.at_mk.2 ⟨_, rfl, .inr ⟨w3.heap.size, 0, 2, [] ++ (fz ++ []), rfl, by simp, by simp, by simp [maxLen], ⟨_, _, [], fz ++ [], by rw [cell_of_block hEn]; rfl, by rw [cell_of_block hEn]; rfl, Ty.at_mk.2 ⟨_, rfl, .inl ⟨rfl, rfl, none, 0, rfl⟩⟩, ⟨_, _, fz, [], by rw [cell_of_block hEn]; rfl, by rw [cell_of_block hEn]; rfl, hatn, rfl, rfl⟩, rfl⟩, rfl⟩⟩)
        have hne2 : ∀ b ∈ w3.heap.size :: ([] ++ (fz ++ [])), b ≠ w1.heap.size := fun b hb e => by
          simp only [List.nil_append, List.append_nil, List.mem_cons] at hb
          rcases hb with hb | hb
          · omega
          · exact hne b hb e
        have hFN : Fresh (w.heap.size + 1 + 1) (w3.alloc (Obj.cells #[.int .i64 1, .slice none 0 0, .int .i64 kz, .slice az nz cz] 25)) (w3.heap.size :: ([] ++ (fz ++ []))) := by
          simp only [List.nil_append, List.append_nil]
          refine ⟨List.nodup_cons.2 ⟨fun hm => by have := hat'.lt _ hm; omega, hfn.1⟩, fun b hb => ?_⟩
          rcases List.mem_cons.1 hb with rfl | hb
          · exact ⟨by omega, lt_of_block hEn, fun o => frozen_of_block hEn⟩
          · exact hfn.2 b hb
        have hBN : Below (w.heap.size + 1 + 1) w2 (((w3.alloc (Obj.cells #[.int .i64 1, .slice none 0 0, .int .i64 kz, .slice az nz cz] 25)).setCell ⟨w1.heap.size, 0, none⟩ (.int .i64 4)).setCell ⟨w1.heap.size, 1, none⟩ (.slice (some ⟨w3.heap.size, 0, none⟩) 2 2)) := ((hB.trans ((below_trans hbd hA3).mono (by omega))).setCell (p := ⟨w1.heap.size, 0, none⟩) hws1 _).setCell (p := ⟨w1.heap.size, 1, none⟩) hws1 _
        have HBN := hid hBN
        have HON := hid (heap_setCell_at (o := 1) (heap_setCell_at (o := 0) hOn (.int .i64 4)) (.slice (some ⟨w3.heap.size, 0, none⟩) 2 2))
        have HATF := hid ((HATN.out.setCell (a := ⟨w1.heap.size, 0, none⟩) hne2 (.int .i64 4)).setCell (a := ⟨w1.heap.size, 1, none⟩) hne2 (.slice (some ⟨w3.heap.size, 0, none⟩) 2 2))
        have HFRF := hid ((hFN.setCell (a := ⟨w1.heap.size, 0, none⟩) hne2 (.int .i64 4)).setCell (a := ⟨w1.heap.size, 1, none⟩) hne2 (.slice (some ⟨w3.heap.size, 0, none⟩) 2 2))
        have HNE2 := hid hne2
        clear hOn hEn hatn hfn HATN hFN hBN hne2 hbd hb3 hbs hA3 z0 z1 zf hO hat' hf' hB y0 y1 hOlt
        go_wp2_with fail
        go_roundw
        case rel => exact ⟨j + 1, .mk 4 [.mk 1 [], t'], 4, 2, 2, _, _, ⟨by omega, by rw [cnt_fun1]; have := HCJ.out; omega⟩, by go_num, HON.out, HATF.out, HFRF.out, HNE2.out, HBN.out⟩
        case measure => simp [intOf]; omega
      · have hj4 : ¬ (j : Int) < 4 := by omega
        have yz : ∀ o, wr.frozen? ⟨w1.heap.size, o, none⟩ = false := fun o => frozen_of_block hO
        have HRW := hid (HR2.out.below1 (hB.mono (by omega)))
        have HWW := hid (HW2.out.tail (hB.mono (by omega)) hMw)
        have hER3 := (hB.block _ (by omega)).trans HER2.out
        have HCF := hid (show Ty.cnt (t') ≤ (Ty.mk k ts).cnt + 8 from (by have := HCJ.out; omega))
        have hEz := hER3
        have r0 : (wr).cell? ⟨w.heap.size + 1, 0, none⟩ = some (.int .i64 0) := by rw [cell_of_block hEz]; rfl
        have r1 : (wr).cell? ⟨w.heap.size + 1, 1, none⟩ = some (.slice none 0 0) := by rw [cell_of_block hEz]; rfl
        have rz : ∀ o, (wr).frozen? ⟨w.heap.size + 1, o, none⟩ = false := fun o => frozen_of_block hEz
        have HF := hid (dr_close (R := w.heap.size + 1) (t := t') (x := .int .i64 kz) (y := .slice az nz cz) hat' hf' ((HRW.out).mono (q' := q + 10) (by omega)) HWW.out hMw (by omega) (by omega))
        clear hEz hat' hf' hB hO hER3
        go_wp2_with fail
        exact bodyPost_ret (v := .agg #[.int .i64 kz, .slice az nz cz]) (by simp [results, Try.results65, go_sem, r0, r1]) rfl ⟨_, _, _, rfl, HCF.out, HF.out.1, HF.out.2.1, HF.out.2.2.1, HF.out.2.2.2⟩
  have h2' : (i == 2) = false := by rw [beq_eq_false_iff_ne]; exact h2
  clear h0 h1 h2 hG2
  have HCF := hid (show Ty.cnt (.mk k ts) ≤ (Ty.mk k ts).cnt + 8 from (Nat.le_add_right _ _))
  have hEz := hER2
  have r0 : (w2).cell? ⟨w.heap.size + 1, 0, none⟩ = some (.int .i64 0) := by rw [cell_of_block hEz]; rfl
  have r1 : (w2).cell? ⟨w.heap.size + 1, 1, none⟩ = some (.slice none 0 0) := by rw [cell_of_block hEz]; rfl
  have rz : ∀ o, (w2).frozen? ⟨w.heap.size + 1, o, none⟩ = false := fun o => frozen_of_block hEz
  have HF := hid (dr_close (R := w.heap.size + 1) (t := .mk k ts) (x := .int .i64 k) (y := .slice a' ts.length cap') HATC.out HFC.out ((HR2.out).mono (q' := q + 10) (by omega)) HW2.out hMw (by omega) (by omega))
  clear hEz 
  go_wp2_with fail
  exact bodyPost_ret (v := .agg #[.int .i64 k, .slice a' ts.length cap']) (by simp [results, Try.results65, go_sem, r0, r1]) rfl ⟨_, _, _, rfl, HCF.out, HF.out.1, HF.out.2.1, HF.out.2.2.1, HF.out.2.2.2⟩
end Go.Proofs.Ytolhfcpmhhhjpaa

/- Draws: a context (l3Ctx, DrawCtxValid). -/
import Derived.Test.YtfpkolleoglbiaaGrB
import Derived.Test.YtfpkolleoglbiaaDr6
import Derived.Test.YtfpkolleoglbiaaDr9
import Derived.Test.YtfpkolleoglbiaaDrO
namespace Go.Proofs.Ytfpkolleoglbiaa
open Go.RowKit

theorem GrowB.lower {B B' : Nat} {ds : List Bd} {v : Value} {fp : List Nat} {w : World} (h : GrowB B ds v fp w) (hB : B' ≤ B) : GrowB B' ds v fp w := by
  obtain ⟨xs, h1, h2, h3, h4⟩ := h
  refine ⟨xs, ⟨h1.1, ?_⟩, h2, h3.mono hB, h4⟩
  rcases h1.2 with h | ⟨g, cap, cur, e1, e2, e3⟩
  · exact .inl h
  · exact .inr ⟨g, cap, cur, e1, Nat.le_trans hB e2, e3⟩

/-- What a draw of a context says. -/
def CtxX (w : World) (e : Ending) (w' : World) : Prop := ∃ ds v f, e = .returned v ∧ ds.length ≤ 3 ∧ GrowB w.heap.size ds v f w' ∧ Below w.heap.size w w'

def CtxR (M : Nat) (w : World) (e : Ending) (w' : World) : Prop := ∃ ds v f, e = .returned v ∧ ds.length ≤ 3 ∧ GrowB w.heap.size ds v f w' ∧ Rw M w w'

/-- The first binding of a row of the call's own, stored anew. -/
theorem GrowB.set0 {B : Nat} {d : Bd} {ds : List Bd} {g n cap : Nat} {fp f : List Nat} {w : World} {s : ByteArray} {t : Ty} {x y z : Value} (h : GrowB B (d :: ds) (.slice (some ⟨g, 0, none⟩) n cap) fp w) (hx : BdAt w ⟨s, t⟩ (.agg #[x, y, z]) f) (hf : Fresh B w f) (hd : ∀ b ∈ f, b ∉ fp ∧ b ≠ g) :
    ∃ fp', GrowB B (⟨s, t⟩ :: ds) (.slice (some ⟨g, 0, none⟩) n cap) fp' (((w.setCell ⟨g, 0, none⟩ x).setCell ⟨g, 1, none⟩ y).setCell ⟨g, 2, none⟩ z) := by
  obtain ⟨xs, ho, ha, hff, hn⟩ := h
  obtain ⟨x0, y0, z0, r, f0, g0, rfl, rfl, h0, hr⟩ := ha
  have hgf : g ∉ f0 ++ g0 := hn g rfl
  have hk : ∀ b, b ≠ g → ∀ o, (((w.setCell ⟨g, 0, none⟩ x).setCell ⟨g, 1, none⟩ y).setCell ⟨g, 2, none⟩ z).cell? ⟨b, o, none⟩ = w.cell? ⟨b, o, none⟩ := fun b hb o =>
    (cell_setCell_ne _ ⟨g, 2, none⟩ _ b o hb).trans ((cell_setCell_ne _ ⟨g, 1, none⟩ _ b o hb).trans (cell_setCell_ne _ ⟨g, 0, none⟩ _ b o hb))
  refine ⟨f ++ g0, x :: y :: z :: r, ?_, ⟨x, y, z, r, f, g0, rfl, rfl, hx.congr (fun b hb => hk b (hd b hb).2), hr.congr (fun b hb => hk b (fun e => hgf (by rw [← e]; simp [hb])))⟩, ?_, ?_⟩
  · rcases ho.2 with ⟨h1, _⟩ | ⟨g', cap', cur, e, hb, hg, hc, hm, hsz, hxs⟩
    · cases h1
    · cases e
      refine ⟨by simpa using ho.1, .inr ⟨g, cap, _, rfl, hb, heap_setCell_at (heap_setCell_at (heap_setCell_at hg x) y) z, hc, hm, by simp [hsz], ?_⟩⟩
      obtain ⟨l⟩ := cur
      simp only [Array.toList_setIfInBounds] at *
      simp only [List.length_cons] at hxs ⊢
      match l, hxs with
      | a1 :: a2 :: a3 :: l', hxs =>
        have e3 : (ds.length + 1) * 3 = ds.length * 3 + 3 := by omega
        rw [e3] at hxs ⊢
        simp only [List.take_succ_cons, List.cons.injEq] at hxs
        simp [hxs.2.2.2]
      | [], hxs => simp at hxs
      | [_], hxs => have h9 := congrArg List.length hxs; simp at h9; omega
      | [_, _], hxs => have h9 := congrArg List.length hxs; simp at h9; omega
  · have hs : (((w.setCell ⟨g, 0, none⟩ x).setCell ⟨g, 1, none⟩ y).setCell ⟨g, 2, none⟩ z).heap.size = w.heap.size := by simp only [size_setCell]
    have hfz : ∀ b, b ≠ g → ∀ o, (((w.setCell ⟨g, 0, none⟩ x).setCell ⟨g, 1, none⟩ y).setCell ⟨g, 2, none⟩ z).frozen? ⟨b, o, none⟩ = w.frozen? ⟨b, o, none⟩ := fun b hb o =>
      (frozen_setCell_ne _ ⟨g, 2, none⟩ _ b o hb).trans ((frozen_setCell_ne _ ⟨g, 1, none⟩ _ b o hb).trans (frozen_setCell_ne _ ⟨g, 0, none⟩ _ b o hb))
    have hnd := List.nodup_append.1 hff.1
    refine ⟨List.nodup_append.2 ⟨hf.1, hnd.2.1, fun a ha b hb e => (hd a ha).1 (by rw [e]; simp [hb])⟩, fun b hb => ?_⟩
    rcases List.mem_append.1 hb with hb | hb
    · exact ⟨hf.ge b hb, by rw [hs]; exact (hf.2 b hb).2.1, fun o => (hfz b (hd b hb).2 o).trans ((hf.2 b hb).2.2 o)⟩
    · have hm : b ∈ f0 ++ g0 := by simp [hb]
      exact ⟨hff.ge b hm, by rw [hs]; exact (hff.2 b hm).2.1, fun o => (hfz b (fun e => hgf (by rw [← e]; exact hm)) o).trans ((hff.2 b hm).2.2 o)⟩
  · intro b hb
    obtain rfl : g = b := by simpa [Value.ownBlock] using hb
    intro hm
    rcases List.mem_append.1 hm with hm | hm
    · exact (hd g hm).2 rfl
    · exact hgf (by simp [hm])

set_option linter.unusedSimpArgs false in
set_option maxRecDepth 100000 in
set_option maxHeartbeats 4000000 in
theorem l3Ctx_any (M q : Nat) (w : World) (hR0 : RdAt M q w) (hq : q + 2000 ≤ 1000000) : Calls Try.prog 7 #[.pointer (some ⟨M, 0, none⟩)] w (CtxR M w) := by
  obtain ⟨i0, hi0, hz0, hz1, hz2⟩ := info_parts (P := Try.prog) (e := 34) Try.infoBd
  have hMw := hR0.lt
  have hbA : Below w.heap.size w ((w.alloc (Obj.cells #[] 34)).alloc (Obj.cells #[.int .i64 2, .int .i64 1, .int .i64 3, .int .i64 0] 3)) := ((Below.refl _ _).alloc (Nat.le_refl _) _).alloc (by simp) _
  have hG0 : GrowB w.heap.size [] (.slice (some ⟨w.heap.size, 0, none⟩) 0 0) [] ((w.alloc (Obj.cells #[] 34)).alloc (Obj.cells #[.int .i64 2, .int .i64 1, .int .i64 3, .int .i64 0] 3)) := (GrowB.new (Nat.le_refl _)).below ((Below.refl _ _).alloc (Nat.le_refl _) _)
  have hE1 : ((w.alloc (Obj.cells #[] 34)).alloc (Obj.cells #[.int .i64 2, .int .i64 1, .int .i64 3, .int .i64 0] 3)).heap[w.heap.size + 1]? = some (Obj.cells #[.int .i64 2, .int .i64 1, .int .i64 3, .int .i64 0] 3) := by
    have := alloc_new (w.alloc (Obj.cells #[] 34)) (Obj.cells #[.int .i64 2, .int .i64 1, .int .i64 3, .int .i64 0] 3)
    simpa using this
  have HN := hid (num_any M q (w.heap.size + 1) [2, 1, 3, 0] _ (hR0.rw hbA) (by omega) (by omega) (fun j hj => by
    rw [cell_of_block hE1]
    have : j = 0 ∨ j = 1 ∨ j = 2 ∨ j = 3 := by simp at hj; omega
    rcases this with rfl | rfl | rfl | rfl <;> rfl) (by simp) (by simp))
  have HW0 := hid (Rw.of_below hbA hMw)
  have HG0 := hid hG0
  clear hR0 hE1 hG0 hbA
  go_enter Try.func7, Try.ntmps7
  go_wp2_with fail
  refine HN.out.mono ?_
  rintro e w1 ⟨k0, rfl, hk0, hR1, hW1⟩
  obtain ⟨N, rfl, hN3⟩ : ∃ N : Nat, k0 = N ∧ N ≤ 3 := by
    simp only [List.mem_cons, List.not_mem_nil, or_false] at hk0
    exact ⟨k0.toNat, by omega, by omega⟩
  have HW1 := hid (HW0.out.trans hW1)
  have HG1 := hid (HG0.out.rw hMw hW1)
  have HR1 := hid hR1
  clear hk0 hR1 hW1
  go_wp2_with fail
  go_loopw [3, 4] (fun out i wr => ∃ (j : Nat) (ds : List Bd) (v : Value) (f : List Nat), j ≤ N ∧ i = .int .i64 ((N : Int) - (j : Int)) ∧ out = v ∧ ds.length = j ∧ RdAt M (q + 1 + 200 * j) wr ∧ Rw M w wr ∧ GrowB w.heap.size ds v f wr) (fun _ i _ => (intOf i).toNat)
  case atStart => exact ⟨0, [], _, [], Nat.zero_le _, by simp, rfl, rfl, by simpa using HR1.out, HW1.out, HG1.out⟩
  case round =>
    obtain ⟨j, ds, v, f, hj, rfl, rfl, hdl, hR, hW, hG⟩ := hrel
    obtain ⟨av, cv, rfl⟩ := hG.shape
    have hMr := hR.lt
    have HDL := hid hdl
    have HR := hid hR
    have HW := hid hW
    have HG := hid hG
    have hav := hG.block
    have hws := hW.size
    clear hR hW hG hdl
    by_cases hlk : j < N
    · have hgt : ((N : Int) - (j : Int)) > 0 := by omega
      have hal : Below wr.heap.size wr (wr.alloc (Obj.cells #[.string ⟨#[120]⟩, .string ⟨#[122]⟩, .string ⟨#[120]⟩, .string ⟨#[121]⟩] 9)) := (Below.refl _ _).alloc (Nat.le_refl _) _
      have hE := alloc_new wr (Obj.cells #[.string ⟨#[120]⟩, .string ⟨#[122]⟩, .string ⟨#[120]⟩, .string ⟨#[121]⟩] 9)
      have HO := hid (of_any M (q + 1 + 200 * j) wr.heap.size [⟨#[120]⟩, ⟨#[122]⟩, ⟨#[120]⟩, ⟨#[121]⟩] _ (HR.out.rw hal) (by omega) (by omega) (fun j hj => by
        rw [cell_of_block hE]
        have : j = 0 ∨ j = 1 ∨ j = 2 ∨ j = 3 := by simp at hj; omega
        rcases this with rfl | rfl | rfl | rfl <;> rfl) (by simp) (by simp))
      have HAL := hid (Rw.of_below hal hMr)
      clear hal hE
      go_wp2_with fail
      refine HO.out.mono ?_
      rintro e w2 ⟨s, rfl, hs, hR2, hW2⟩
      have hss : s.size ≤ 1 := by
        simp only [List.mem_cons, List.not_mem_nil, or_false] at hs
        rcases hs with rfl | rfl | rfl | rfl <;> decide
      have HT := hid (l1Type_any M (q + 1 + 200 * j + 1) w2 hR2 (by omega))
      have hWa := HAL.out.trans hW2
      have hs2 := hWa.size
      have HWa := hid hWa
      clear hs hR2 hW2 hWa
      go_wp2_with fail
      refine HT.out.mono ?_
      rintro e w4 ⟨t, vt, ft, rfl, ht, hatt, hft, hR4, hW4⟩
      obtain ⟨k, n, a, c, rfl⟩ := hatt.agg
      have hWb := HWa.out.trans hW4
      obtain ⟨xs, ho1, ha1, hf1, hn1⟩ := HG.out.rw hMw hWb
      have hs4 := hW4.size
      have hdl3 : ds.length ≤ 3 := by have := HDL.out; omega
      obtain ⟨B, hBd⟩ : ∃ B, B = w.heap.size := ⟨_, rfl⟩
      have HBD := hid hBd
      rw [← hBd] at ho1 hf1
      have hB4 : B ≤ w4.heap.size := by omega
      clear hBd
      go_wp2_with (refine wpList_append_lies _ rfl (.tmp 13) (.tmp 20) 23 rfl B 34 i0 _ 3 48 Try.underBds hi0 hz0 hz1 hz2 rfl (by omega) (.slice av ds.length cv) ds.length xs rfl (ho1.alloc _) ⟨w4.heap.size, 0, none⟩ 1 1 [.string s, .int .i64 k, .slice a n c] rfl rfl (World.news_of_block (cs := #[.string s, .int .i64 k, .slice a n c]) (t := 34) (fr := (0, 0)) (heap_alloc_new w4 _)) (by simp [Value.oneCell']) (by omega) (by unfold maxLen; omega) (by omega) (by simp; omega) (w4.heap.size + 1) (by simp) ?_; intro g cp w5 hown3 hgrow hat3 hlt3)
      have hG5 := GrowB.step (w := w2) (t := ⟨s, t⟩) (f := ft) ha1 hf1 hn1 (fun b hb => by have := hav.1 b hb; omega) (fun b hb => by have := hav.2 b hb; omega) (by have := HBD.out; omega) ⟨k, n, a, c, rfl, by show s.size ≤ maxLen; unfold maxLen; omega, hatt⟩ hft ((Below.refl _ _).alloc (Nat.le_refl _) (Obj.cells #[.string s, .int .i64 k, .slice a n c] 34)) hgrow hown3 rfl (by simpa using hat3)
      have hB5 : Below B w4 w5 := ((Below.refl _ _).alloc hB4 (Obj.cells #[.string s, .int .i64 k, .slice a n c] 34)).grown hgrow (by simp; omega) (fun b hb => (ho1.lt b hb).1)
      rw [HBD.out] at hB5 hG5
      have HRN := hid ((hR4.below1 (hB5.mono (by omega))).mono (q' := q + 1 + 200 * (j + 1)) (by omega))
      have HWN := hid ((HW.out.trans hWb).tail hB5 hMw)
      have HGN := hid hG5
      clear hG5 hB5 hown3 hgrow hat3 hlt3 ho1 ha1 hf1 hn1 hR4 hW4 hWb hatt hft ht
      go_wp2_with fail
      go_roundw
      case rel => exact ⟨j + 1, ds ++ [⟨s, t⟩], _, _, by omega, by simp; omega, rfl, by simp [HDL.out], HRN.out, HWN.out, HGN.out⟩
      case measure => simp [intOf]; omega
    · obtain rfl : j = N := by omega
      have hgt : ¬ ((j : Int) - (j : Int)) > 0 := by omega
      by_cases h0 : ds.length = 0
      · have hz : ¬ ((ds.length : Int) > 0) := by omega
        have HF := hid (And.intro HG.out HW.out)
        clear h0
        go_wp2_with fail
        go_ret
        exact ⟨ds, _, f, rfl, by have := HDL.out; omega, HF.out.1, HF.out.2⟩
      · have hz : (ds.length : Int) > 0 := by omega
        have HP := hid (pick_any M (q + 1 + 200 * j) 30 wr HR.out (by omega) (by omega) (by omega))
        clear h0
        go_wp2_with fail
        refine HP.out.mono ?_
        rintro e w2 ⟨i, rfl, -, hR2, hW2⟩
        have HG2 := hid (HG.out.rw hMw hW2)
        have HW2 := hid (HW.out.trans hW2)
        have HR2 := hid hR2
        have hs2 := hW2.size
        clear hR2 hW2
        by_cases hi : i = 0
        · subst hi
          have hal : Below w2.heap.size w2 (w2.alloc (Obj.cells #[.string ⟨#[88]⟩, .string ⟨#[]⟩, .string ⟨#[120]⟩] 9)) := (Below.refl _ _).alloc (Nat.le_refl _) _
          have hE := alloc_new w2 (Obj.cells #[.string ⟨#[88]⟩, .string ⟨#[]⟩, .string ⟨#[120]⟩] 9)
          have HO := hid (of_any M (q + 1 + 200 * j + 1) w2.heap.size [⟨#[88]⟩, ⟨#[]⟩, ⟨#[120]⟩] _ (HR2.out.rw hal) (by omega) (by have := HR2.out.lt; omega) (fun j hj => by
            rw [cell_of_block hE]
            have : j = 0 ∨ j = 1 ∨ j = 2 := by simp at hj; omega
            rcases this with rfl | rfl | rfl <;> rfl) (by simp) (by simp))
          have HAL := hid (Rw.of_below hal HR2.out.lt)
          have hGz := HG2.out
          clear hal hE
          go_wp2_with fail
          refine HO.out.mono ?_
          rintro e w3 ⟨s, rfl, hs, hR3, hW3⟩
          have hss : s.size ≤ 1 := by
            simp only [List.mem_cons, List.not_mem_nil, or_false] at hs
            rcases hs with rfl | rfl | rfl <;> decide
          have HT := hid (l1Type_any M (q + 1 + 200 * j + 1 + 1) w3 hR3 (by omega))
          have HWa := hid (HAL.out.trans hW3)
          have hs3 := HWa.out.size
          clear hs hR3 hW3
          go_wp2_with fail
          refine HT.out.mono ?_
          rintro e w4 ⟨t, vt, ft, rfl, ht, hatt, hft, hR4, hW4⟩
          obtain ⟨k4, n4, a4, c4, rfl⟩ := hatt.agg
          have HM := hid (l1Mutate_any t M _ _ ft w4 hR4 (by omega) hatt (fun b hb => by have := hft.ge b hb; have := HR2.out.lt; omega) (by have := cnt_shp4 ht; omega))
          have HWb := hid (HWa.out.trans hW4)
          have hs4 := hW4.size
          clear ht hatt hft hR4 hW4
          go_wp2_with fail
          refine HM.out.mono ?_
          rintro e w5 ⟨t', vt, f5, rfl, -, hat5, hf5, hR5, hW5⟩
          obtain ⟨k5, n5, a5, c5, rfl⟩ := hat5.agg
          have hWc := HWb.out.trans hW5
          have hG5 := hGz.rw hMw hWc
          obtain ⟨d, ds', rfl⟩ : ∃ d ds', ds = d :: ds' := by
            cases ds with
            | nil => simp at hz
            | cons d ds' => exact ⟨d, ds', rfl⟩
          obtain ⟨gO, cur, rfl, hgO, hgB, hcs⟩ : ∃ gO cur, av = some ⟨gO, 0, none⟩ ∧ w5.heap[gO]? = some (.cells cur 34 (0, 0)) ∧ (w.heap.size ≤ gO ∧ gO < w2.heap.size) ∧ 3 ≤ cur.size := by
            obtain ⟨xs, ho, -⟩ := hG5
            rcases ho.2 with ⟨h1, h2⟩ | ⟨g', cap', cur, e, hb, hg, hc, hm, hsz, hxs⟩
            · simp at h2
            · simp only [Value.slice.injEq] at e
              refine ⟨g', cur, e.1, hg, ⟨hb, ?_⟩, by rw [hsz]; simp only [List.length_cons] at hc; omega⟩
              exact hGz.block.2 g' (by rw [e.1]; rfl)
          have z0 : w5.cell? ⟨gO, 0, none⟩ = some (cur[0]'(by omega)) := by rw [cell_of_block hgO]; exact Array.getElem?_eq_getElem _
          have z1 : w5.cell? ⟨gO, 1, none⟩ = some (cur[1]'(by omega)) := by rw [cell_of_block hgO]; exact Array.getElem?_eq_getElem _
          have z2 : w5.cell? ⟨gO, 2, none⟩ = some (cur[2]'(by omega)) := by rw [cell_of_block hgO]; exact Array.getElem?_eq_getElem _
          have zf : ∀ o, w5.frozen? ⟨gO, o, none⟩ = false := fun o => frozen_of_block hgO
          obtain ⟨fq, hGF⟩ := GrowB.set0 (s := s) (t := t') hG5 ⟨k5, n5, a5, c5, rfl, by show s.size ≤ maxLen; unfold maxLen; omega, hat5⟩ (hf5.mono (B' := w.heap.size) (by omega)) (fun b hb => by
            have h1 := hf5.ge b hb
            refine ⟨fun hm => ?_, by omega⟩
            have := hGz.block.1 b hm
            omega)
          have HGF := hid hGF
          have HWF := hid ((HW2.out.trans hWc).tail ((((Below.refl w.heap.size w5).setCell (p := ⟨gO, 0, none⟩) hgB.1 (.string s)).setCell (p := ⟨gO, 1, none⟩) hgB.1 (.int .i64 k5)).setCell (p := ⟨gO, 2, none⟩) hgB.1 (.slice a5 n5 c5)) hMw)
          have HL3 := hid (show (⟨s, t'⟩ :: ds').length ≤ 3 by have := HDL.out; simp only [List.length_cons] at *; omega)
          clear hG5 hGF hGz hWc hat5 hf5 hR5 hW5 hgO
          go_wp2_with fail
          go_ret
          exact ⟨⟨s, t'⟩ :: ds', _, fq, rfl, HL3.out, HGF.out, HWF.out⟩
        · have hi' : (i == 0) = false := by rw [beq_eq_false_iff_ne]; exact hi
          clear hi
          go_wp2_with fail
          go_ret
          exact ⟨ds, _, f, rfl, by have := HDL.out; omega, HG2.out, HW2.out⟩

theorem drawCtx_any (a : Option Addr) (n cap : Nat) (w : World) (hB : BytA w a n) (hn : n ≤ cap) (hm : cap ≤ maxLen) : Calls Try.prog 4 #[.slice a n cap] w (CtxX w) := by
  have HO := hid (open_any a n cap w hB hn hm)
  clear hB
  go_enter Try.func4, Try.ntmps4
  go_wp2_with fail
  refine HO.out.mono ?_
  rintro e w1 ⟨rfl, hR1, hb1⟩
  have HC := hid (l3Ctx_any w.heap.size 0 w1 hR1 (by omega))
  have HB1 := hid hb1
  clear hR1 hb1
  go_wp2_with fail
  refine HC.out.mono ?_
  rintro e w2 ⟨ds, v, f, rfl, hl, hG, hW⟩
  have HF := hid (show CtxX w (.returned v) w2 from ⟨ds, v, f, rfl, hl, hG.lower HB1.out.size, HB1.out.trans hW.below⟩)
  clear hl hG hW
  go_wp2_with fail
  go_ret
  exact HF.out
end Go.Proofs.Ytfpkolleoglbiaa

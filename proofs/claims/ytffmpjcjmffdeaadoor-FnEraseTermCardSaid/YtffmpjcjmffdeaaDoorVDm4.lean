/- Draws of terms: a term sometimes made invalid (l2Mutate). -/
import Derived.Test.YtffmpjcjmffdeaaDoorVDm3
import Derived.Test.YtffmpjcjmffdeaaDoorVSb0
import Derived.Test.YtffmpjcjmffdeaaDoorVDr6
namespace Go.Proofs.YtffmpjcjmffdeaaDoor
open Go.RowKit

theorem Rw.atM {M : Nat} {w w' : World} (h : Rw M w w') {t : Tm} {v : Value} {fp : List Nat} (ht : t.At w v fp) (hf : ∀ b ∈ fp, b ≠ M) : t.At w' v fp :=
  ht.congr fun b hb o => World.cell?_of_block (w := w) (a := ⟨b, o, none⟩) (h.eq (ht.lt b hb) (hf b hb))

/-- A term with another kind, name, number or label. -/
theorem alter {w : World} {t : Tm} {k num lb : Int} {nm : ByteArray} {x3 x4 x5 x6 x8 : Value} {fp : List Nat} (k' : Int) (nm' : ByteArray) (num' lb' : Int) (h : t.At w (.agg #[.int .i64 k, .string nm, .int .i64 num, x3, x4, x5, x6, .int .i64 lb, x8]) fp) (hn : nm'.size ≤ maxLen) :
    ∃ t' : Tm, t'.sz ≤ t.sz + nm'.size ∧ t'.At w (.agg #[.int .i64 k', .string nm', .int .i64 num', x3, x4, x5, x6, .int .i64 lb', x8]) fp := by
  obtain ⟨k0, nm0, num0, ty, fr, lb0, ts, rfl⟩ := t.shape
  obtain ⟨k1, s1, k2, s2, s, f1, f2, f3, hv, hnm, h1, h2, rfl, h3⟩ := Tm.at_mk.1 h
  cases hv
  exact ⟨.mk k' nm' num' ty fr lb' ts, by simp only [Tm.sz]; omega, Tm.at_mk.2 ⟨_, _, _, _, _, f1, f2, f3, rfl, hn, h1, h2, rfl, h3⟩⟩

theorem name_le {w : World} {t : Tm} {k num lb : Int} {nm : ByteArray} {x3 x4 x5 x6 x8 : Value} {fp : List Nat} (h : t.At w (.agg #[.int .i64 k, .string nm, .int .i64 num, x3, x4, x5, x6, .int .i64 lb, x8]) fp) : nm.size ≤ maxLen ∧ nm.size ≤ t.sz := by
  obtain ⟨k0, nm0, num0, ty, fr, lb0, ts, rfl⟩ := t.shape
  obtain ⟨k1, s1, k2, s2, s, f1, f2, f3, hv, hnm, h1, h2, rfl, h3⟩ := Tm.at_mk.1 h
  cases hv
  exact ⟨hnm, by simp only [Tm.sz]; omega⟩

/-- .. with another type. -/
theorem alterT {w : World} {t : Tm} {ty' : Ty} {lo lo' : Nat} {k num lb : Int} {nm : ByteArray} {x3 x4 x5 x6 x8 z3 z4 : Value} {fp f' : List Nat} (h : t.At w (.agg #[.int .i64 k, .string nm, .int .i64 num, x3, x4, x5, x6, .int .i64 lb, x8]) fp) (hF : Fresh lo w fp) (h' : ty'.At w (.agg #[z3, z4]) f') (hF' : Fresh lo' w f') (hd : ∀ b ∈ f', b ∉ fp ∧ lo ≤ b) :
    ∃ (t' : Tm) (g : List Nat), t'.sz ≤ t.sz + ty'.cnt ∧ t'.At w (.agg #[.int .i64 k, .string nm, .int .i64 num, z3, z4, x5, x6, .int .i64 lb, x8]) g ∧ Fresh lo w g := by
  obtain ⟨k0, nm0, num0, ty, fr, lb0, ts, rfl⟩ := t.shape
  obtain ⟨k1, s1, k2, s2, s, f1, f2, f3, hv, hnm, h1, h2, rfl, h3⟩ := Tm.at_mk.1 h
  cases hv
  refine ⟨.mk k nm num ty' fr lb ts, f' ++ (f2 ++ f3), by simp only [Tm.sz]; omega, Tm.at_mk.2 ⟨_, _, _, _, _, f', f2, f3, rfl, hnm, h', h2, rfl, h3⟩, ?_⟩
  refine ⟨List.nodup_append.2 ⟨hF'.1, (List.nodup_append.1 hF.1).2.1, fun a ha b hb e => (hd a ha).1 (by subst e; exact List.mem_append_right _ hb)⟩, fun b hb => ?_⟩
  rcases List.mem_append.1 hb with hb | hb
  · exact ⟨(hd b hb).2, (hF'.2 b hb).2.1, (hF'.2 b hb).2.2⟩
  · exact hF.2 b (List.mem_append_right _ hb)

/-- .. with the unknown type as From. -/
theorem alterF {w : World} {t : Tm} {lo : Nat} {k num lb : Int} {nm : ByteArray} {x3 x4 x5 x6 x8 : Value} {fp : List Nat} (h : t.At w (.agg #[.int .i64 k, .string nm, .int .i64 num, x3, x4, x5, x6, .int .i64 lb, x8]) fp) (hF : Fresh lo w fp) :
    ∃ (t' : Tm) (g : List Nat), t'.sz ≤ t.sz ∧ t'.At w (.agg #[.int .i64 k, .string nm, .int .i64 num, x3, x4, .int .i64 1, .slice none 0 0, .int .i64 lb, x8]) g ∧ Fresh lo w g := by
  obtain ⟨k0, nm0, num0, ty, fr, lb0, ts, rfl⟩ := t.shape
  obtain ⟨k1, s1, k2, s2, s, f1, f2, f3, hv, hnm, h1, h2, rfl, h3⟩ := Tm.at_mk.1 h
  cases hv
  have hn := List.nodup_append.1 hF.1
  have hn2 := List.nodup_append.1 hn.2.1
  refine ⟨.mk k nm num ty (.mk 1 []) lb ts, f1 ++ ([] ++ f3), by simp only [Tm.sz, Ty.cnt, cntL, List.length_nil]; omega, Tm.at_mk.2 ⟨_, _, _, _, _, f1, [], f3, rfl, hnm, h1, Ty.at_mk.2 ⟨_, rfl, .inl ⟨rfl, rfl, _, _, rfl⟩⟩, rfl, h3⟩, ?_⟩
  refine ⟨List.nodup_append.2 ⟨hn.1, by simpa using hn2.2.1, fun a ha b hb e => hn.2.2 a ha b (List.mem_append_right _ (by simpa using hb)) e⟩, fun b hb => ?_⟩
  rcases List.mem_append.1 hb with hb | hb
  · exact hF.2 b (List.mem_append_left _ hb)
  · exact hF.2 b (List.mem_append_right _ (List.mem_append_right _ (by simpa using hb)))

theorem atM_set {w : World} {t : Tm} {v : Value} {fp : List Nat} (h : t.At w v fp) {p : Addr} (hn : ∀ b ∈ fp, b ≠ p.block) (u : Value) : t.At (w.setCell p u) v fp :=
  h.congr fun b hb o => cell_setCell_ne w p u b o (hn b hb)

set_option linter.unusedSimpArgs false in
set_option linter.unusedVariables false in
set_option maxRecDepth 100000 in
set_option maxHeartbeats 8000000 in
theorem l2Mutate_any (t : Tm) (M q N : Nat) (v : Value) (fp : List Nat) (w : World) (hR0 : RdAt M q w) (hq : q + 1000 ≤ 1000000) (hat : t.At w v fp) (hN : t.sz ≤ N) (hNN : N ≤ 1000000) :
    Calls Tryd.prog 130 #[.pointer (some ⟨M, 0, none⟩), v] w (DrawM M (q + 500) (N + N + 300) w) := by
  have hMw := hR0.lt
  obtain ⟨k, nm, num, k1, n1, a1, c1, k2, n2, a2, c2, lb, n3, a3, c3, rfl⟩ := hat.agg
  have hb0 : Below w.heap.size w ((w.alloc (Obj.cells #[.int .i64 k, .string nm, .int .i64 num, .int .i64 k1, .slice a1 n1 c1, .int .i64 k2, .slice a2 n2 c2, .int .i64 lb, .slice a3 n3 c3] 35)).alloc (Obj.cells #[.int .i64 0, .string ⟨#[]⟩, .int .i64 0, .int .i64 0, .slice none 0 0, .int .i64 0, .slice none 0 0, .int .i64 0, .slice none 0 0] 35)) := ((Below.refl _ _).alloc (Nat.le_refl _) _).alloc (by simp) _
  have hs0 : ((w.alloc (Obj.cells #[.int .i64 k, .string nm, .int .i64 num, .int .i64 k1, .slice a1 n1 c1, .int .i64 k2, .slice a2 n2 c2, .int .i64 lb, .slice a3 n3 c3] 35)).alloc (Obj.cells #[.int .i64 0, .string ⟨#[]⟩, .int .i64 0, .int .i64 0, .slice none 0 0, .int .i64 0, .slice none 0 0, .int .i64 0, .slice none 0 0] 35)).heap.size = w.heap.size + 1 + 1 := by simp
  have HCP := hid (l2Copy_any t _ _ _ (hat.below hb0) (by omega))
  have HR0 := hid (hR0.rw hb0)
  have HW0 := hid (Rw.of_below hb0 hMw)
  obtain ⟨hX0, hX1⟩ := two_out (Below.refl ((w.alloc (Obj.cells #[.int .i64 k, .string nm, .int .i64 num, .int .i64 k1, .slice a1 n1 c1, .int .i64 k2, .slice a2 n2 c2, .int .i64 lb, .slice a3 n3 c3] 35)).alloc (Obj.cells #[.int .i64 0, .string ⟨#[]⟩, .int .i64 0, .int .i64 0, .slice none 0 0, .int .i64 0, .slice none 0 0, .int .i64 0, .slice none 0 0] 35)).heap.size ((w.alloc (Obj.cells #[.int .i64 k, .string nm, .int .i64 num, .int .i64 k1, .slice a1 n1 c1, .int .i64 k2, .slice a2 n2 c2, .int .i64 lb, .slice a3 n3 c3] 35)).alloc (Obj.cells #[.int .i64 0, .string ⟨#[]⟩, .int .i64 0, .int .i64 0, .slice none 0 0, .int .i64 0, .slice none 0 0, .int .i64 0, .slice none 0 0] 35)))
  obtain ⟨x0, x1, x2, x3, x4, x5, x6, x7, x8⟩ := cells9 hX0
  have HRS0 := hid hX1
  clear hR0 hat hb0 hX0 hX1
  go_enter Tryd.func130, Tryd.ntmps130
  go_wp2_with fail
  refine HCP.out.mono ?_
  rintro e w2 ⟨v2, g2, rfl, hat2, hf2, hb2⟩
  obtain ⟨j0, j1, j2, j3, j4, j5, j6, j7, j8, j9, j10, j11, j12, j13, j14, rfl⟩ := hat2.agg
  have hs2 := hb2.size
  rw [hs0] at hs2
  have hal : Below w2.heap.size w2 (w2.alloc (Obj.cells #[.int .i64 j0, .string j1, .int .i64 j2, .int .i64 j3, .slice j5 j4 j6, .int .i64 j7, .slice j9 j8 j10, .int .i64 j11, .slice j13 j12 j14] 35)) := (Below.refl _ _).alloc (Nat.le_refl _) _
  have hR2 := (HR0.out.rw hb2)
  have HP := hid (pick_any M q 50 _ (hR2.rw hal) (by omega) (by omega) (by omega))
  have HWB := hid ((HW0.out.trans (Rw.of_below hb2 HR0.out.lt)).trans (Rw.of_below hal hR2.lt))
  have HBB := hid (alloc_new w2 (Obj.cells #[.int .i64 j0, .string j1, .int .i64 j2, .int .i64 j3, .slice j5 j4 j6, .int .i64 j7, .slice j9 j8 j10, .int .i64 j11, .slice j13 j12 j14] 35))
  have HSB := hid ((hal.block _ (by omega)).trans ((hb2.block _ (by omega)).trans HRS0.out))
  have HATB := hid (hat2.below hal)
  have HFTB := hid ((hf2.mono (B' := w.heap.size + 1 + 1) (by omega)).below hal)
  have HNE := hid (show ∀ b ∈ g2, b ≠ w2.heap.size from fun b hb => by have := hat2.lt b hb; omega)
  have HNM3 := hid (show ∀ b ∈ g2, b ≠ M from fun b hb => by have := hf2.ge b hb; omega)
  have HNM := hid (name_le hat2)
  have HTN := hid hN
  clear hat2 hf2 hb2 hal hR2 x0 x1 x2 x3 x4 x5 x6 x7 x8
  go_wp2_with fail
  refine HP.out.mono ?_
  rintro e w3 ⟨i, rfl, ⟨hi0, hi50⟩, hR3, hW3⟩
  have HR3 := hid hR3
  have HW3 := hid (HWB.out.trans hW3)
  have HB3 := hid (hW3.block HBB.out (by omega))
  have HS3 := hid (hW3.block HSB.out (by omega))
  have HAT3 := hid (hW3.atM HATB.out HNM3.out)
  have HFT3 := hid (hW3.fresh HFTB.out (by omega))
  have hM3 := hR3.lt
  have hs3 := lt_of_block HB3.out
  clear hR3 hW3
  by_cases i0 : i = 0
  · subst i0
    have hal : Below w3.heap.size w3 (w3.alloc (Obj.cells #[.int .i64 0, .int .i64 15, .int .i64 1, .int .i64 6, .int .i64 14, .int .i64 (-1)] 3)) := (Below.refl _ _).alloc (Nat.le_refl _) _
    have hER := alloc_new w3 (Obj.cells #[.int .i64 0, .int .i64 15, .int .i64 1, .int .i64 6, .int .i64 14, .int .i64 (-1)] 3)
    have HN2 := hid (num_any M (q + 1) (w3.heap.size) [0, 15, 1, 6, 14, -1] _ (HR3.out.rw hal) (by omega) (by omega) (fun j hj => by
      rw [cell_of_block hER]
      have : j = 0 ∨ j = 1 ∨ j = 2 ∨ j = 3 ∨ j = 4 ∨ j = 5 := by simp at hj; omega
      rcases this with rfl | rfl | rfl | rfl | rfl | rfl <;> rfl) (by simp) (by simp))
    have HWa := hid (Rw.of_below hal HR3.out.lt)
    clear hal hER
    go_wp2_with fail
    refine HN2.out.mono ?_
    rintro e w4 ⟨z, rfl, -, hR4, hW4⟩
    have hWx := HWa.out.trans hW4
    have HRx := hid hR4
    have HWx := hid (HW3.out.trans hWx)
    have HATx := hid (hWx.atM HAT3.out HNM3.out)
    have HFTx := hid (hWx.fresh HFT3.out (by omega))
    have HBx := hid (hWx.block HB3.out (by omega))
    have HSx := hid (hWx.block HS3.out (by omega))
    clear hR4 hW4 hWx
    have hbs0 : Below w2.heap.size w4 (w4.setCell ⟨w2.heap.size, 0, none⟩ (.int .i64 z)) := (Below.refl _ _).setCell (p := ⟨w2.heap.size, 0, none⟩) (Nat.le_refl _) _
    have HATs0 := hid (atM_set HATx.out (p := ⟨w2.heap.size, 0, none⟩) HNE.out ((.int .i64 z) : Value))
    have HFTs0 := hid (HFTx.out.setCell (a := ⟨w2.heap.size, 0, none⟩) HNE.out ((.int .i64 z) : Value))
    have HRs0 := hid (HRx.out.below1 (hbs0.mono (by omega)))
    have HWs0 := hid (HWx.out.tail (hbs0.mono (by omega)) (by omega))
    clear hbs0
    have HATs := HATs0
    have HFTs := HFTs0
    have hBx := HBx.out
    have hSx := HSx.out
    obtain ⟨y0, y1, y2, y3, y4, y5, y6, y7, y8⟩ := cells9 hBx
    have yz := fun o => frozen_of_block (o := o) hBx
    have hbl := lt_of_block hBx
    have r0 := cell_of_block (o := 0) hSx
    have r1 := cell_of_block (o := 1) hSx
    have r2 := cell_of_block (o := 2) hSx
    have r3 := cell_of_block (o := 3) hSx
    have r4 := cell_of_block (o := 4) hSx
    have r5 := cell_of_block (o := 5) hSx
    have r6 := cell_of_block (o := 6) hSx
    have r7 := cell_of_block (o := 7) hSx
    have r8 := cell_of_block (o := 8) hSx
    have rz := fun o => frozen_of_block (o := o) hSx
    obtain ⟨t', hz', ha'⟩ := alter z j1 j2 j11 HATs.out HNM.out.1
    have HSZ' := hid (show t'.sz ≤ N + N + 100 from Nat.le_trans hz' (by have := HNM.out; have := HTN.out; omega))
    have HAT' := hid ha'
    have HFT' := HFTs
    clear hz' ha'
    have FIN := hid ((dm_close (R := w.heap.size + 1) (lo := w.heap.size + 1 + 1) (vs := (#[.int .i64 z, .string j1, .int .i64 j2, .int .i64 j3, .slice j5 j4 j6, .int .i64 j7, .slice j9 j8 j10, .int .i64 j11, .slice j13 j12 j14]).toList) (Nat.le_refl _) HAT'.out HFT'.out HRs0.out HWs0.out hMw (by omega) (Nat.lt_succ_self _)).up (q' := q + 500) (S' := N + N + 300) (by omega) (by have := HSZ'.out; omega))
    clear hBx hSx
    go_wp2_with fail
    exact bodyPost_ret (v := .agg #[.int .i64 z, .string j1, .int .i64 j2, .int .i64 j3, .slice j5 j4 j6, .int .i64 j7, .slice j9 j8 j10, .int .i64 j11, .slice j13 j12 j14]) (by simp [results, Tryd.results130, go_sem, r0, r1, r2, r3, r4, r5, r6, r7, r8]) rfl FIN.out
  have e0 : (i == 0) = false := by rw [beq_eq_false_iff_ne]; exact i0
  by_cases i1 : i = 1
  · subst i1
    have hal : Below w3.heap.size w3 (w3.alloc (Obj.cells #[.string ⟨#[88]⟩, .string ⟨#[120, 121]⟩, .string ⟨#[]⟩, .string ⟨#[120]⟩] 9)) := (Below.refl _ _).alloc (Nat.le_refl _) _
    have hER := alloc_new w3 (Obj.cells #[.string ⟨#[88]⟩, .string ⟨#[120, 121]⟩, .string ⟨#[]⟩, .string ⟨#[120]⟩] 9)
    have HO := hid (of_any M (q + 1) w3.heap.size [⟨#[88]⟩, ⟨#[120, 121]⟩, ⟨#[]⟩, ⟨#[120]⟩] _ (HR3.out.rw hal) (by omega) (by omega) (fun j hj => by
      rw [cell_of_block hER]
      have : j = 0 ∨ j = 1 ∨ j = 2 ∨ j = 3 := by simp at hj; omega
      rcases this with rfl | rfl | rfl | rfl <;> rfl) (by simp) (by simp))
    have HWa := hid (Rw.of_below hal HR3.out.lt)
    clear hal hER
    go_wp2_with fail
    refine HO.out.mono ?_
    rintro e w4 ⟨z, rfl, hz, hR4, hW4⟩
    have hzs : z.size ≤ 2 := by
      simp only [List.mem_cons, List.not_mem_nil, or_false] at hz
      rcases hz with rfl | rfl | rfl | rfl <;> decide
    have hWx := HWa.out.trans hW4
    have HRx := hid hR4
    have HWx := hid (HW3.out.trans hWx)
    have HATx := hid (hWx.atM HAT3.out HNM3.out)
    have HFTx := hid (hWx.fresh HFT3.out (by omega))
    have HBx := hid (hWx.block HB3.out (by omega))
    have HSx := hid (hWx.block HS3.out (by omega))
    clear hR4 hW4 hWx hz
    have hbs0 : Below w2.heap.size w4 (w4.setCell ⟨w2.heap.size, 1, none⟩ (.string z)) := (Below.refl _ _).setCell (p := ⟨w2.heap.size, 1, none⟩) (Nat.le_refl _) _
    have HATs0 := hid (atM_set HATx.out (p := ⟨w2.heap.size, 1, none⟩) HNE.out ((.string z) : Value))
    have HFTs0 := hid (HFTx.out.setCell (a := ⟨w2.heap.size, 1, none⟩) HNE.out ((.string z) : Value))
    have HRs0 := hid (HRx.out.below1 (hbs0.mono (by omega)))
    have HWs0 := hid (HWx.out.tail (hbs0.mono (by omega)) (by omega))
    clear hbs0
    have HATs := HATs0
    have HFTs := HFTs0
    have hBx := HBx.out
    have hSx := HSx.out
    obtain ⟨y0, y1, y2, y3, y4, y5, y6, y7, y8⟩ := cells9 hBx
    have yz := fun o => frozen_of_block (o := o) hBx
    have hbl := lt_of_block hBx
    have r0 := cell_of_block (o := 0) hSx
    have r1 := cell_of_block (o := 1) hSx
    have r2 := cell_of_block (o := 2) hSx
    have r3 := cell_of_block (o := 3) hSx
    have r4 := cell_of_block (o := 4) hSx
    have r5 := cell_of_block (o := 5) hSx
    have r6 := cell_of_block (o := 6) hSx
    have r7 := cell_of_block (o := 7) hSx
    have r8 := cell_of_block (o := 8) hSx
    have rz := fun o => frozen_of_block (o := o) hSx
    obtain ⟨t', hz', ha'⟩ := alter j0 z j2 j11 HATs.out (by unfold maxLen; omega)
    have HSZ' := hid (show t'.sz ≤ N + N + 100 from Nat.le_trans hz' (by have := HNM.out; have := HTN.out; omega))
    have HAT' := hid ha'
    have HFT' := HFTs
    clear hz' ha'
    have FIN := hid ((dm_close (R := w.heap.size + 1) (lo := w.heap.size + 1 + 1) (vs := (#[.int .i64 j0, .string z, .int .i64 j2, .int .i64 j3, .slice j5 j4 j6, .int .i64 j7, .slice j9 j8 j10, .int .i64 j11, .slice j13 j12 j14]).toList) (Nat.le_refl _) HAT'.out HFT'.out HRs0.out HWs0.out hMw (by omega) (Nat.lt_succ_self _)).up (q' := q + 500) (S' := N + N + 300) (by omega) (by have := HSZ'.out; omega))
    clear hBx hSx
    go_wp2_with fail
    exact bodyPost_ret (v := .agg #[.int .i64 j0, .string z, .int .i64 j2, .int .i64 j3, .slice j5 j4 j6, .int .i64 j7, .slice j9 j8 j10, .int .i64 j11, .slice j13 j12 j14]) (by simp [results, Tryd.results130, go_sem, r0, r1, r2, r3, r4, r5, r6, r7, r8]) rfl FIN.out
  have e1 : (i == 1) = false := by rw [beq_eq_false_iff_ne]; exact i1
  by_cases i2 : i = 2
  · subst i2
    have hal : Below w3.heap.size w3 (w3.alloc (Obj.cells #[.int .i64 1000, .int .i64 (-1), .int .i64 9223372036854775807, .int .i64 5] 3)) := (Below.refl _ _).alloc (Nat.le_refl _) _
    have hER := alloc_new w3 (Obj.cells #[.int .i64 1000, .int .i64 (-1), .int .i64 9223372036854775807, .int .i64 5] 3)
    have HN2 := hid (num_any M (q + 1) (w3.heap.size) [1000, -1, 9223372036854775807, 5] _ (HR3.out.rw hal) (by omega) (by omega) (fun j hj => by
      rw [cell_of_block hER]
      have : j = 0 ∨ j = 1 ∨ j = 2 ∨ j = 3 := by simp at hj; omega
      rcases this with rfl | rfl | rfl | rfl <;> rfl) (by simp) (by simp))
    have HWa := hid (Rw.of_below hal HR3.out.lt)
    clear hal hER
    go_wp2_with fail
    refine HN2.out.mono ?_
    rintro e w4 ⟨z, rfl, -, hR4, hW4⟩
    have hWx := HWa.out.trans hW4
    have HRx := hid hR4
    have HWx := hid (HW3.out.trans hWx)
    have HATx := hid (hWx.atM HAT3.out HNM3.out)
    have HFTx := hid (hWx.fresh HFT3.out (by omega))
    have HBx := hid (hWx.block HB3.out (by omega))
    have HSx := hid (hWx.block HS3.out (by omega))
    clear hR4 hW4 hWx
    have hbs0 : Below w2.heap.size w4 (w4.setCell ⟨w2.heap.size, 2, none⟩ (.int .i64 z)) := (Below.refl _ _).setCell (p := ⟨w2.heap.size, 2, none⟩) (Nat.le_refl _) _
    have HATs0 := hid (atM_set HATx.out (p := ⟨w2.heap.size, 2, none⟩) HNE.out ((.int .i64 z) : Value))
    have HFTs0 := hid (HFTx.out.setCell (a := ⟨w2.heap.size, 2, none⟩) HNE.out ((.int .i64 z) : Value))
    have HRs0 := hid (HRx.out.below1 (hbs0.mono (by omega)))
    have HWs0 := hid (HWx.out.tail (hbs0.mono (by omega)) (by omega))
    clear hbs0
    have HATs := HATs0
    have HFTs := HFTs0
    have hBx := HBx.out
    have hSx := HSx.out
    obtain ⟨y0, y1, y2, y3, y4, y5, y6, y7, y8⟩ := cells9 hBx
    have yz := fun o => frozen_of_block (o := o) hBx
    have hbl := lt_of_block hBx
    have r0 := cell_of_block (o := 0) hSx
    have r1 := cell_of_block (o := 1) hSx
    have r2 := cell_of_block (o := 2) hSx
    have r3 := cell_of_block (o := 3) hSx
    have r4 := cell_of_block (o := 4) hSx
    have r5 := cell_of_block (o := 5) hSx
    have r6 := cell_of_block (o := 6) hSx
    have r7 := cell_of_block (o := 7) hSx
    have r8 := cell_of_block (o := 8) hSx
    have rz := fun o => frozen_of_block (o := o) hSx
    obtain ⟨t', hz', ha'⟩ := alter j0 j1 z j11 HATs.out HNM.out.1
    have HSZ' := hid (show t'.sz ≤ N + N + 100 from Nat.le_trans hz' (by have := HNM.out; have := HTN.out; omega))
    have HAT' := hid ha'
    have HFT' := HFTs
    clear hz' ha'
    have FIN := hid ((dm_close (R := w.heap.size + 1) (lo := w.heap.size + 1 + 1) (vs := (#[.int .i64 j0, .string j1, .int .i64 z, .int .i64 j3, .slice j5 j4 j6, .int .i64 j7, .slice j9 j8 j10, .int .i64 j11, .slice j13 j12 j14]).toList) (Nat.le_refl _) HAT'.out HFT'.out HRs0.out HWs0.out hMw (by omega) (Nat.lt_succ_self _)).up (q' := q + 500) (S' := N + N + 300) (by omega) (by have := HSZ'.out; omega))
    clear hBx hSx
    go_wp2_with fail
    exact bodyPost_ret (v := .agg #[.int .i64 j0, .string j1, .int .i64 z, .int .i64 j3, .slice j5 j4 j6, .int .i64 j7, .slice j9 j8 j10, .int .i64 j11, .slice j13 j12 j14]) (by simp [results, Tryd.results130, go_sem, r0, r1, r2, r3, r4, r5, r6, r7, r8]) rfl FIN.out
  have e2 : (i == 2) = false := by rw [beq_eq_false_iff_ne]; exact i2
  by_cases i3 : i = 3
  · subst i3
    have HT1 := hid (l1Type_any M (q + 1) w3 HR3.out (by omega))
    go_wp2_with fail
    refine HT1.out.mono ?_
    rintro e w4 ⟨tt, vt, gt, rfl, hsh, hatt, hft, hR4, hW4⟩
    have hct := cnt_shp4 hsh
    have HWa := hid hW4
    have hs4 := hW4.size
    have HT2 := hid (l1Mutate_any tt M (q + 200) _ gt w4 (hR4.mono (by omega)) (by omega) hatt (fun b hb => by have := hft.ge b hb; have := HR3.out.lt; omega) (by omega))
    obtain ⟨kq, nq, aq, cq, rfl⟩ := hatt.agg
    clear hsh hatt hft hR4 hW4
    go_wp2_with fail
    refine HT2.out.mono ?_
    rintro e w5 ⟨ty', vt2, f', rfl, hc2, hat2', hf2', hR5, hW5⟩
    obtain ⟨kt, nt, at', ct, rfl⟩ := hat2'.agg
    have hWx := HWa.out.trans hW5
    have HRx := hid hR5
    have HWx := hid (HW3.out.trans hWx)
    have HTx := hid hat2'
    have HUx := hid hf2'
    have HTC := hid (show ty'.cnt ≤ 60 by omega)
    have HATx := hid (hWx.atM HAT3.out HNM3.out)
    have HFTx := hid (hWx.fresh HFT3.out (by omega))
    have HBx := hid (hWx.block HB3.out (by omega))
    have HSx := hid (hWx.block HS3.out (by omega))
    have HNT := hid (show ∀ b ∈ f', b ≠ w2.heap.size from fun b hb => by have := hf2'.ge b hb; have := lt_of_block HB3.out; omega)
    have HDJ := hid (show ∀ b ∈ f', b ∉ g2 ∧ w.heap.size + 1 + 1 ≤ b from fun b hb => ⟨fun hm => by have := hf2'.ge b hb; have := HAT3.out.lt b hm; omega, by have := hf2'.ge b hb; have := lt_of_block HB3.out; omega⟩)
    clear hR5 hW5 hWx hat2' hf2' hc2
    have hbs0 : Below w2.heap.size w5 (w5.setCell ⟨w2.heap.size, 3, none⟩ (.int .i64 kt)) := (Below.refl _ _).setCell (p := ⟨w2.heap.size, 3, none⟩) (Nat.le_refl _) _
    have HATs0 := hid (atM_set HATx.out (p := ⟨w2.heap.size, 3, none⟩) HNE.out ((.int .i64 kt) : Value))
    have HFTs0 := hid (HFTx.out.setCell (a := ⟨w2.heap.size, 3, none⟩) HNE.out ((.int .i64 kt) : Value))
    have HRs0 := hid (HRx.out.below1 (hbs0.mono (by omega)))
    have HWs0 := hid (HWx.out.tail (hbs0.mono (by omega)) (by omega))
    have HTs0 := hid (HTx.out.setCell (a := ⟨w2.heap.size, 3, none⟩) HNT.out ((.int .i64 kt) : Value))
    have HUs0 := hid (HUx.out.setCell (a := ⟨w2.heap.size, 3, none⟩) HNT.out ((.int .i64 kt) : Value))
    clear hbs0
    have hbs1 : Below w2.heap.size (w5.setCell ⟨w2.heap.size, 3, none⟩ (.int .i64 kt)) ((w5.setCell ⟨w2.heap.size, 3, none⟩ (.int .i64 kt)).setCell ⟨w2.heap.size, 4, none⟩ (.slice at' nt ct)) := (Below.refl _ _).setCell (p := ⟨w2.heap.size, 4, none⟩) (Nat.le_refl _) _
    have HATs1 := hid (atM_set HATs0.out (p := ⟨w2.heap.size, 4, none⟩) HNE.out ((.slice at' nt ct) : Value))
    have HFTs1 := hid (HFTs0.out.setCell (a := ⟨w2.heap.size, 4, none⟩) HNE.out ((.slice at' nt ct) : Value))
    have HRs1 := hid (HRs0.out.below1 (hbs1.mono (by omega)))
    have HWs1 := hid (HWs0.out.tail (hbs1.mono (by omega)) (by omega))
    have HTs1 := hid (HTs0.out.setCell (a := ⟨w2.heap.size, 4, none⟩) HNT.out ((.slice at' nt ct) : Value))
    have HUs1 := hid (HUs0.out.setCell (a := ⟨w2.heap.size, 4, none⟩) HNT.out ((.slice at' nt ct) : Value))
    clear hbs1
    have HATs := HATs1
    have HFTs := HFTs1
    have HTs := HTs1
    have HUs := HUs1
    have hBx := HBx.out
    have hSx := HSx.out
    obtain ⟨y0, y1, y2, y3, y4, y5, y6, y7, y8⟩ := cells9 hBx
    have yz := fun o => frozen_of_block (o := o) hBx
    have hbl := lt_of_block hBx
    have r0 := cell_of_block (o := 0) hSx
    have r1 := cell_of_block (o := 1) hSx
    have r2 := cell_of_block (o := 2) hSx
    have r3 := cell_of_block (o := 3) hSx
    have r4 := cell_of_block (o := 4) hSx
    have r5 := cell_of_block (o := 5) hSx
    have r6 := cell_of_block (o := 6) hSx
    have r7 := cell_of_block (o := 7) hSx
    have r8 := cell_of_block (o := 8) hSx
    have rz := fun o => frozen_of_block (o := o) hSx
    obtain ⟨t', g', hz', ha', hg'⟩ := alterT HATs.out HFTs.out HTs.out HUs.out HDJ.out
    have HSZ' := hid (show t'.sz ≤ N + N + 100 from Nat.le_trans hz' (by have := HTC.out; have := HTN.out; omega))
    have HAT' := hid ha'
    have HFT' := hid hg'
    clear hz' ha' hg'
    have FIN := hid ((dm_close (R := w.heap.size + 1) (lo := w.heap.size + 1 + 1) (vs := (#[.int .i64 j0, .string j1, .int .i64 j2, .int .i64 kt, .slice at' nt ct, .int .i64 j7, .slice j9 j8 j10, .int .i64 j11, .slice j13 j12 j14]).toList) (Nat.le_refl _) HAT'.out HFT'.out HRs1.out HWs1.out hMw (by omega) (Nat.lt_succ_self _)).up (q' := q + 500) (S' := N + N + 300) (by omega) (by have := HSZ'.out; omega))
    clear hBx hSx
    go_wp2_with fail
    exact bodyPost_ret (v := .agg #[.int .i64 j0, .string j1, .int .i64 j2, .int .i64 kt, .slice at' nt ct, .int .i64 j7, .slice j9 j8 j10, .int .i64 j11, .slice j13 j12 j14]) (by simp [results, Tryd.results130, go_sem, r0, r1, r2, r3, r4, r5, r6, r7, r8]) rfl FIN.out
  have e3 : (i == 3) = false := by rw [beq_eq_false_iff_ne]; exact i3
  by_cases i4 : i = 4
  · subst i4
    have HATx := HAT3
    have HFTx := HFT3
    have HBx := HB3
    have HSx := HS3
    have HRx := HR3
    have HWx := HW3
    have hbs0 : Below w2.heap.size w3 (w3.setCell ⟨w2.heap.size, 7, none⟩ (.int .i64 1)) := (Below.refl _ _).setCell (p := ⟨w2.heap.size, 7, none⟩) (Nat.le_refl _) _
    have HATs0 := hid (atM_set HATx.out (p := ⟨w2.heap.size, 7, none⟩) HNE.out ((.int .i64 1) : Value))
    have HFTs0 := hid (HFTx.out.setCell (a := ⟨w2.heap.size, 7, none⟩) HNE.out ((.int .i64 1) : Value))
    have HRs0 := hid (HRx.out.below1 (hbs0.mono (by omega)))
    have HWs0 := hid (HWx.out.tail (hbs0.mono (by omega)) (by omega))
    clear hbs0
    have HATs := HATs0
    have HFTs := HFTs0
    have hBx := HBx.out
    have hSx := HSx.out
    obtain ⟨y0, y1, y2, y3, y4, y5, y6, y7, y8⟩ := cells9 hBx
    have yz := fun o => frozen_of_block (o := o) hBx
    have hbl := lt_of_block hBx
    have r0 := cell_of_block (o := 0) hSx
    have r1 := cell_of_block (o := 1) hSx
    have r2 := cell_of_block (o := 2) hSx
    have r3 := cell_of_block (o := 3) hSx
    have r4 := cell_of_block (o := 4) hSx
    have r5 := cell_of_block (o := 5) hSx
    have r6 := cell_of_block (o := 6) hSx
    have r7 := cell_of_block (o := 7) hSx
    have r8 := cell_of_block (o := 8) hSx
    have rz := fun o => frozen_of_block (o := o) hSx
    obtain ⟨t', hz', ha'⟩ := alter j0 j1 j2 1 HATs.out HNM.out.1
    have HSZ' := hid (show t'.sz ≤ N + N + 100 from Nat.le_trans hz' (by have := HNM.out; have := HTN.out; omega))
    have HAT' := hid ha'
    have HFT' := HFTs
    clear hz' ha'
    have FIN := hid ((dm_close (R := w.heap.size + 1) (lo := w.heap.size + 1 + 1) (vs := (#[.int .i64 j0, .string j1, .int .i64 j2, .int .i64 j3, .slice j5 j4 j6, .int .i64 j7, .slice j9 j8 j10, .int .i64 1, .slice j13 j12 j14]).toList) (Nat.le_refl _) HAT'.out HFT'.out HRs0.out HWs0.out hMw (by omega) (Nat.lt_succ_self _)).up (q' := q + 500) (S' := N + N + 300) (by omega) (by have := HSZ'.out; omega))
    clear hBx hSx
    go_wp2_with fail
    exact bodyPost_ret (v := .agg #[.int .i64 j0, .string j1, .int .i64 j2, .int .i64 j3, .slice j5 j4 j6, .int .i64 j7, .slice j9 j8 j10, .int .i64 1, .slice j13 j12 j14]) (by simp [results, Tryd.results130, go_sem, r0, r1, r2, r3, r4, r5, r6, r7, r8]) rfl FIN.out
  have e4 : (i == 4) = false := by rw [beq_eq_false_iff_ne]; exact i4
  by_cases i5 : i = 5
  · subst i5
    go_wp2_with fail
    refine (l1Any_any _).mono ?_
    rintro e w4 ⟨rfl, hb4⟩
    have hWx := Rw.of_below hb4 HR3.out.lt
    have HRx := hid (HR3.out.rw hb4)
    have HWx := hid (HW3.out.trans hWx)
    have HATx := hid (hWx.atM HAT3.out HNM3.out)
    have HFTx := hid (hWx.fresh HFT3.out (by omega))
    have HBx := hid (hWx.block HB3.out (by omega))
    have HSx := hid (hWx.block HS3.out (by omega))
    clear hb4 hWx
    have hbs0 : Below w2.heap.size w4 (w4.setCell ⟨w2.heap.size, 5, none⟩ (.int .i64 1)) := (Below.refl _ _).setCell (p := ⟨w2.heap.size, 5, none⟩) (Nat.le_refl _) _
    have HATs0 := hid (atM_set HATx.out (p := ⟨w2.heap.size, 5, none⟩) HNE.out ((.int .i64 1) : Value))
    have HFTs0 := hid (HFTx.out.setCell (a := ⟨w2.heap.size, 5, none⟩) HNE.out ((.int .i64 1) : Value))
    have HRs0 := hid (HRx.out.below1 (hbs0.mono (by omega)))
    have HWs0 := hid (HWx.out.tail (hbs0.mono (by omega)) (by omega))
    clear hbs0
    have hbs1 : Below w2.heap.size (w4.setCell ⟨w2.heap.size, 5, none⟩ (.int .i64 1)) ((w4.setCell ⟨w2.heap.size, 5, none⟩ (.int .i64 1)).setCell ⟨w2.heap.size, 6, none⟩ (.slice none 0 0)) := (Below.refl _ _).setCell (p := ⟨w2.heap.size, 6, none⟩) (Nat.le_refl _) _
    have HATs1 := hid (atM_set HATs0.out (p := ⟨w2.heap.size, 6, none⟩) HNE.out ((.slice none 0 0) : Value))
    have HFTs1 := hid (HFTs0.out.setCell (a := ⟨w2.heap.size, 6, none⟩) HNE.out ((.slice none 0 0) : Value))
    have HRs1 := hid (HRs0.out.below1 (hbs1.mono (by omega)))
    have HWs1 := hid (HWs0.out.tail (hbs1.mono (by omega)) (by omega))
    clear hbs1
    have HATs := HATs1
    have HFTs := HFTs1
    have hBx := HBx.out
    have hSx := HSx.out
    obtain ⟨y0, y1, y2, y3, y4, y5, y6, y7, y8⟩ := cells9 hBx
    have yz := fun o => frozen_of_block (o := o) hBx
    have hbl := lt_of_block hBx
    have r0 := cell_of_block (o := 0) hSx
    have r1 := cell_of_block (o := 1) hSx
    have r2 := cell_of_block (o := 2) hSx
    have r3 := cell_of_block (o := 3) hSx
    have r4 := cell_of_block (o := 4) hSx
    have r5 := cell_of_block (o := 5) hSx
    have r6 := cell_of_block (o := 6) hSx
    have r7 := cell_of_block (o := 7) hSx
    have r8 := cell_of_block (o := 8) hSx
    have rz := fun o => frozen_of_block (o := o) hSx
    obtain ⟨t', g', hz', ha', hg'⟩ := alterF HATs.out HFTs.out
    have HSZ' := hid (show t'.sz ≤ N + N + 100 from Nat.le_trans hz' (by have := HTN.out; omega))
    have HAT' := hid ha'
    have HFT' := hid hg'
    clear hz' ha' hg'
    have FIN := hid ((dm_close (R := w.heap.size + 1) (lo := w.heap.size + 1 + 1) (vs := (#[.int .i64 j0, .string j1, .int .i64 j2, .int .i64 j3, .slice j5 j4 j6, .int .i64 1, .slice none 0 0, .int .i64 j11, .slice j13 j12 j14]).toList) (Nat.le_refl _) HAT'.out HFT'.out HRs1.out HWs1.out hMw (by omega) (Nat.lt_succ_self _)).up (q' := q + 500) (S' := N + N + 300) (by omega) (by have := HSZ'.out; omega))
    clear hBx hSx
    go_wp2_with fail
    exact bodyPost_ret (v := .agg #[.int .i64 j0, .string j1, .int .i64 j2, .int .i64 j3, .slice j5 j4 j6, .int .i64 1, .slice none 0 0, .int .i64 j11, .slice j13 j12 j14]) (by simp [results, Tryd.results130, go_sem, r0, r1, r2, r3, r4, r5, r6, r7, r8]) rfl FIN.out
  have e5 : (i == 5) = false := by rw [beq_eq_false_iff_ne]; exact i5
  have HATx := HAT3
  have HFTx := HFT3
  have HBx := HB3
  have HSx := HS3
  have HRx := HR3
  have HWx := HW3
  have HATs := HATx
  have HFTs := HFTx
  have hBx := HBx.out
  have hSx := HSx.out
  obtain ⟨y0, y1, y2, y3, y4, y5, y6, y7, y8⟩ := cells9 hBx
  have yz := fun o => frozen_of_block (o := o) hBx
  have hbl := lt_of_block hBx
  have r0 := cell_of_block (o := 0) hSx
  have r1 := cell_of_block (o := 1) hSx
  have r2 := cell_of_block (o := 2) hSx
  have r3 := cell_of_block (o := 3) hSx
  have r4 := cell_of_block (o := 4) hSx
  have r5 := cell_of_block (o := 5) hSx
  have r6 := cell_of_block (o := 6) hSx
  have r7 := cell_of_block (o := 7) hSx
  have r8 := cell_of_block (o := 8) hSx
  have rz := fun o => frozen_of_block (o := o) hSx
  obtain ⟨t', hz', ha'⟩ := alter j0 j1 j2 j11 HATs.out HNM.out.1
  have HSZ' := hid (show t'.sz ≤ N + N + 100 from Nat.le_trans hz' (by have := HNM.out; have := HTN.out; omega))
  have HAT' := hid ha'
  have HFT' := HFTs
  clear hz' ha'
  have FIN := hid ((dm_close (R := w.heap.size + 1) (lo := w.heap.size + 1 + 1) (vs := (#[.int .i64 j0, .string j1, .int .i64 j2, .int .i64 j3, .slice j5 j4 j6, .int .i64 j7, .slice j9 j8 j10, .int .i64 j11, .slice j13 j12 j14]).toList) (Nat.le_refl _) HAT'.out HFT'.out HRx.out HWx.out hMw (by omega) (Nat.lt_succ_self _)).up (q' := q + 500) (S' := N + N + 300) (by omega) (by have := HSZ'.out; omega))
  clear hBx hSx
  go_wp2_with fail
  exact bodyPost_ret (v := .agg #[.int .i64 j0, .string j1, .int .i64 j2, .int .i64 j3, .slice j5 j4 j6, .int .i64 j7, .slice j9 j8 j10, .int .i64 j11, .slice j13 j12 j14]) (by simp [results, Tryd.results130, go_sem, r0, r1, r2, r3, r4, r5, r6, r7, r8]) rfl FIN.out
end Go.Proofs.YtffmpjcjmffdeaaDoor

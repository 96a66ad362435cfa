/- Draws of terms: l2Draw. -/
import Derived.Deep.RegionLaw
import Derived.Test.YtffmpjcjmffdeaaDoorVDm1
import Derived.Test.YtffmpjcjmffdeaaDoorVG1
namespace Go.Proofs.YtffmpjcjmffdeaaDoor
open Go.RowKit

theorem own_ne9 {w : World} {B n M : Nat} {T : TypeId} {v : Value} {xs : List Value} (ho : w.ownsRow B T 9 v n xs) (hM : M < B) : some M ≠ v.ownBlock := fun e => by
  have := (ho.lt M e.symm).1
  omega

theorem Rw.eq {M k : Nat} {w w' : World} (h : Rw M w w') (hk : k < w.heap.size) (hM : k ≠ M) : w'.heap[k]? = w.heap[k]? := by
  rcases Nat.lt_or_gt_of_ne hM with hl | hl
  · exact h.below.block k hl
  · exact h.above k hl hk

theorem dm_step {M E : Nat} {P a b c : World} {o : Obj} {row : Option Nat} (h : ∀ k, k ≠ M → k ≠ E → k < P.heap.size → a.heap[k]? = P.heap[k]?) (hr : Rw M a b) (hg : (b.alloc o).grownBy c row) (hrow : ∀ g, row = some g → P.heap.size ≤ g) (hs : P.heap.size ≤ a.heap.size) (_ : a.heap.size ≤ b.heap.size) :
    ∀ k, k ≠ M → k ≠ E → k < P.heap.size → c.heap[k]? = P.heap[k]? := fun k h1 h2 h3 => by
  have hka : k < a.heap.size := by omega
  have hkb : k < b.heap.size := Nat.lt_of_lt_of_le hka hr.size
  rw [hg.block k (by simp; omega) (fun e => by have := hrow k e.symm; omega), Below.heap_alloc _ _ _ hkb, hr.eq hka h1, h k h1 h2 h3]

theorem szM_le {S : Nat} : ∀ {ts : List Tm}, (∀ t ∈ ts, t.sz ≤ S) → szML ts ≤ ts.length * S
  | [], _ => by simp [szML]
  | t :: ts, h => by
    have h1 := h t (by simp)
    have h2 := szM_le (ts := ts) (fun u hu => h u (by simp [hu]))
    simp only [szML, List.length_cons, Nat.succ_mul]
    omega

theorem addL_len : ∀ (l : List UInt8) (c : UInt8), (addL l c).length ≤ l.length + 1
  | [], _ => by simp [addL]
  | x :: xs, c => by
    have := addL_len xs c
    simp only [addL]
    repeat' split
    all_goals simp only [List.length_cons]; omega

/-- The term that stands behind the loop, put into the result's cells. -/
theorem dm_done {M E R S q : Nat} {w P wr : World} {k : Int} {nm : ByteArray} {ty : Ty} {kt : Int} {nt ct nv capv : Nat} {at' av : Option Addr} {ft f : List Nat} {ds : List Tm} (hat : ty.At P (.agg #[.int .i64 kt, .slice at' nt ct]) ft) (hft : Fresh (E + 1) P ft) (hnm : nm.size ≤ maxLen) (hc : ty.cnt ≤ 30) (hn1 : nm.size ≤ 1) (hG : GrowM P.heap.size ds (.slice av nv capv) f wr) (hl : ds.length ≤ 3) (hall : ∀ t ∈ ds, t.sz ≤ S) (hX : ∀ b, b ≠ M → b ≠ E → b < P.heap.size → wr.heap[b]? = P.heap[b]?)
    (hW : Rw M w wr) (hME : M < E) (hRE : R < E) (hMw : M < w.heap.size) (hs : P.heap.size ≤ wr.heap.size) (hR : RdAt M q wr) (_ : M < P.heap.size) (hEP : E < P.heap.size) (hRw : R = w.heap.size := by rfl) :
    DrawM M q (34 + 3 * S) w (.returned (.agg #[.int .i64 k, .string nm, .int .i64 0, .int .i64 kt, .slice at' nt ct, .int .i64 0, .slice none 0 0, .int .i64 0, .slice av nv capv])) (put wr R 0 (#[.int .i64 k, .string nm, .int .i64 0, .int .i64 kt, .slice at' nt ct, .int .i64 0, .slice none 0 0, .int .i64 0, .slice av nv capv]).toList) := by
  obtain ⟨fp, hsm, hf⟩ := hG.done (by unfold maxLen; omega)
  have hlt := hat.lt
  have hne : ∀ b ∈ ft, b ≠ M ∧ b ≠ E ∧ b < P.heap.size := fun b hb => by
    have h1 := hft.ge b hb
    have h2 := hlt b hb
    refine ⟨?_, ?_, h2⟩ <;> omega
  have hat2 : ty.At wr (.agg #[.int .i64 kt, .slice at' nt ct]) ft := hat.congr (fun b hb o => World.cell?_of_block (w := P) (a := ⟨b, o, none⟩) (hX b (hne b hb).1 (hne b hb).2.1 (hne b hb).2.2))
  have hfr : Fresh (E + 1) wr (ft ++ ([] ++ fp)) := by
    refine ⟨List.nodup_append.2 ⟨hft.1, by simpa using hf.1, fun a ha b hb e => ?_⟩, fun b hb => ?_⟩
    · have h1 := hlt a ha
      have h2 := hf.ge b (by simpa using hb)
      omega
    · rcases List.mem_append.1 hb with hb | hb
      · exact ⟨hft.ge b hb, Nat.lt_of_lt_of_le (hlt b hb) hs, fun o => (World.frozen?_of_block (w := P) (a := ⟨b, o, none⟩) (hX b (hne b hb).1 (hne b hb).2.1 (hne b hb).2.2)).trans ((hft.2 b hb).2.2 o)⟩
      · have h3 := hf.2 b (by simpa using hb)
        exact ⟨by omega, h3.2.1, h3.2.2⟩
  have hsz : (Tm.mk k nm 0 ty (.mk 0 []) 0 ds).sz ≤ 34 + 3 * S := by
    have h1 := szM_le hall
    have h2 : ds.length * S ≤ 3 * S := Nat.mul_le_mul_right _ hl
    simp only [Tm.sz, Ty.cnt, cntL, List.length_nil]
    omega
  exact dm_close (lo := E + 1) hsz (Tm.at_mk.2 ⟨_, _, _, _, _, ft, [], fp, rfl, hnm, hat2, Ty.at_mk.2 ⟨_, rfl, .inl ⟨rfl, rfl, _, _, rfl⟩⟩, rfl, hsm⟩) hfr hR hW hMw (by omega) (by omega)

def DmC (d : Nat) : Prop := ∀ (M q : Nat) (s : ByteArray) (w : World), RdAt M q w → q + 40 * 4 ^ d ≤ 1000000 → s.size + d ≤ 50 → Calls Tryd.prog 165 #[.pointer (some ⟨M, 0, none⟩), .string s, .int .i64 d] w (DrawM M (q + 40 * 4 ^ d) (40 * 4 ^ d) w)

theorem pow4 (d : Nat) : 1 ≤ 4 ^ d := Nat.pow_pos (by omega)

theorem DrawM.up {M q q' S S' : Nat} {w : World} (hq : q ≤ q') (hs : S ≤ S') {e : Ending} {w' : World} (h : DrawM M q S w e w') : DrawM M q' S' w e w' := by
  obtain ⟨t, v, fp, h1, h2, h3, h4, h5, h6⟩ := h
  exact ⟨t, v, fp, h1, Nat.le_trans h2 hs, h3, h4, h5.mono hq, h6⟩

set_option maxRecDepth 100000 in
set_option maxHeartbeats 4000000 in
/-- A draw that ends in an atom, without a question before. -/
theorem l2Draw_small (d : Nat) (hd : d < 2) : DmC d := by
  intro M q s w hR0 hq hs
  have hMw := hR0.lt
  have h4 := pow4 d
  have hb0 : Below w.heap.size w (w.alloc (Obj.cells #[.int .i64 0, .string ⟨#[]⟩, .int .i64 0, .int .i64 0, .slice none 0 0, .int .i64 0, .slice none 0 0, .int .i64 0, .slice none 0 0] 35)) := (Below.refl _ _).alloc (Nat.le_refl _) _
  have HA := hid (l2Atom_any M q s (w.alloc (Obj.cells #[.int .i64 0, .string ⟨#[]⟩, .int .i64 0, .int .i64 0, .slice none 0 0, .int .i64 0, .slice none 0 0, .int .i64 0, .slice none 0 0] 35)) (hR0.rw hb0) (by omega) (by omega))
  have HW0 := hid (Rw.of_below hb0 hMw)
  have HE0 := hid (alloc_new w (Obj.cells #[.int .i64 0, .string ⟨#[]⟩, .int .i64 0, .int .i64 0, .slice none 0 0, .int .i64 0, .slice none 0 0, .int .i64 0, .slice none 0 0] 35))
  have hsz : (w.alloc (Obj.cells #[.int .i64 0, .string ⟨#[]⟩, .int .i64 0, .int .i64 0, .slice none 0 0, .int .i64 0, .slice none 0 0, .int .i64 0, .slice none 0 0] 35)).heap.size = w.heap.size + 1 := by simp
  have hd2 : (d : Int) < 2 := by omega
  clear hR0 hb0
  go_enter Tryd.func165, Tryd.ntmps165
  go_wp2_with fail
  refine HA.out.mono ?_
  rintro e w1 ⟨t, v, fp, rfl, hts, hat, hf, hR1, hW1⟩
  obtain ⟨r0', r1', r2', r3', r4', r5', r6', r7', r8', r9', r10', r11', r12', r13', r14', rfl⟩ := hat.agg
  have hE1 := hW1.block HE0.out (by omega)
  have r0 := cell_of_block (o := 0) hE1
  have r1 := cell_of_block (o := 1) hE1
  have r2 := cell_of_block (o := 2) hE1
  have r3 := cell_of_block (o := 3) hE1
  have r4 := cell_of_block (o := 4) hE1
  have r5 := cell_of_block (o := 5) hE1
  have r6 := cell_of_block (o := 6) hE1
  have r7 := cell_of_block (o := 7) hE1
  have r8 := cell_of_block (o := 8) hE1
  have rz := fun o => frozen_of_block (o := o) hE1
  have FIN := hid ((dm_close (R := w.heap.size) (lo := w.heap.size + 1) hts hat (by rw [← hsz]; exact hf) hR1 (HW0.out.trans hW1) hMw (Nat.le_refl _) (Nat.lt_succ_self _)).up (q' := q + 40 * 4 ^ d) (S' := 40 * 4 ^ d) (by omega) (by omega))
  clear hat hf hR1 hW1 hE1
  go_wp2_with fail
  exact bodyPost_ret (v := .agg #[.int .i64 r0', .string r1', .int .i64 r2', .int .i64 r3', .slice r5' r4' r6', .int .i64 r7', .slice r9' r8' r10', .int .i64 r11', .slice r13' r12' r14']) (by simp [results, Tryd.results165, go_sem, r0, r1, r2, r3, r4, r5, r6, r7, r8]) rfl FIN.out

set_option linter.unusedSimpArgs false in
set_option linter.unusedVariables false in
set_option maxRecDepth 100000 in
set_option maxHeartbeats 16000000 in
theorem l2Draw_of (d : Nat) (hd1' : 1 ≤ d) (hd5 : d ≤ 4) (P Q : Nat) (hP40 : 40 ≤ P) (hPQ : 4 * P ≤ Q)
    (ih : ∀ (M q : Nat) (s : ByteArray) (w : World), RdAt M q w → q + P ≤ 1000000 → s.size + d ≤ 50 → Calls Tryd.prog 165 #[.pointer (some ⟨M, 0, none⟩), .string s, .int .i64 d] w (DrawM M (q + P) P w))
    (M q : Nat) (s : ByteArray) (w : World) (hR0 : RdAt M q w) (hq : q + Q ≤ 1000000) (hs : s.size + (d + 1) ≤ 50) : Calls Tryd.prog 165 #[.pointer (some ⟨M, 0, none⟩), .string s, .int .i64 ((d + 1 : Nat) : Int)] w (DrawM M (q + Q) Q w) := by
  have HIH := hid ih
  clear ih
  obtain ⟨i0, hi0, hz0, hz1, hz2⟩ := info_parts (P := Tryd.prog) (e := 35) Tryd.infoTm
  have hMw := hR0.lt
  have hb0 : Below w.heap.size w (w.alloc (Obj.cells #[.int .i64 0, .string ⟨#[]⟩, .int .i64 0, .int .i64 0, .slice none 0 0, .int .i64 0, .slice none 0 0, .int .i64 0, .slice none 0 0] 35)) := (Below.refl _ _).alloc (Nat.le_refl _) _
  have HR0 := hid (hR0.rw hb0)
  have HW0 := hid (Rw.of_below hb0 hMw)
  have HE0 := hid (alloc_new w (Obj.cells #[.int .i64 0, .string ⟨#[]⟩, .int .i64 0, .int .i64 0, .slice none 0 0, .int .i64 0, .slice none 0 0, .int .i64 0, .slice none 0 0] 35))
  have hsz0 : (w.alloc (Obj.cells #[.int .i64 0, .string ⟨#[]⟩, .int .i64 0, .int .i64 0, .slice none 0 0, .int .i64 0, .slice none 0 0, .int .i64 0, .slice none 0 0] 35)).heap.size = w.heap.size + 1 := by simp
  have HP := hid (pick_any M q 6 _ HR0.out (by omega) (by omega) (by omega))
  have hd2 : ¬ (((d + 1 : Nat) : Int) < 2) := by omega
  have hd3 : ¬ ((d : Int) + 1 < 2) := by omega
  clear hR0 hb0
  go_enter Tryd.func165, Tryd.ntmps165
  go_wp2_with fail
  refine HP.out.mono ?_
  rintro e w1 ⟨i, rfl, ⟨hi0', hi6⟩, hR1, hW1⟩
  have HR1 := hid hR1
  have HW1 := hid (HW0.out.trans hW1)
  have HE1 := hid (hW1.block HE0.out (by omega))
  have hs1 := lt_of_block HE1.out
  have hM1 := HR1.out.lt
  clear hR1 hW1
  by_cases hi : i = 0
  · subst hi
    have HA := hid (l2Atom_any M (q + 1) s w1 HR1.out (by omega) (by omega))
    go_wp2_with fail
    refine HA.out.mono ?_
    rintro e w2 ⟨t, v, fp, rfl, hts, hat, hf, hR2, hW2⟩
    obtain ⟨r0', r1', r2', r3', r4', r5', r6', r7', r8', r9', r10', r11', r12', r13', r14', rfl⟩ := hat.agg
    have hE2 := hW2.block HE1.out (by omega)
    have r0 := cell_of_block (o := 0) hE2
    have r1 := cell_of_block (o := 1) hE2
    have r2 := cell_of_block (o := 2) hE2
    have r3 := cell_of_block (o := 3) hE2
    have r4 := cell_of_block (o := 4) hE2
    have r5 := cell_of_block (o := 5) hE2
    have r6 := cell_of_block (o := 6) hE2
    have r7 := cell_of_block (o := 7) hE2
    have r8 := cell_of_block (o := 8) hE2
    have rz := fun o => frozen_of_block (o := o) hE2
    have FIN := hid ((dm_close (R := w.heap.size) (lo := w.heap.size + 1) hts hat (hf.mono (by omega)) hR2 (HW1.out.trans hW2) hMw (Nat.le_refl _) (Nat.lt_succ_self _)).up (q' := q + Q) (S' := Q) (by omega) (by omega))
    clear hat hf hR2 hW2 hE2
    go_wp2_with fail
    exact bodyPost_ret (v := .agg #[.int .i64 r0', .string r1', .int .i64 r2', .int .i64 r3', .slice r5' r4' r6', .int .i64 r7', .slice r9' r8' r10', .int .i64 r11', .slice r13' r12' r14']) (by simp [results, Tryd.results165, go_sem, r0, r1, r2, r3, r4, r5, r6, r7, r8]) rfl FIN.out
  have e1 : (i == 0) = false := by rw [beq_eq_false_iff_ne]; exact hi
  have hal : Below w1.heap.size w1 (w1.alloc (Obj.cells #[.int .i64 6, .int .i64 5, .int .i64 7, .int .i64 9, .int .i64 13, .int .i64 10, .int .i64 11, .int .i64 8, .int .i64 12, .int .i64 5, .int .i64 6] 3)) := (Below.refl _ _).alloc (Nat.le_refl _) _
  have hER := alloc_new w1 (Obj.cells #[.int .i64 6, .int .i64 5, .int .i64 7, .int .i64 9, .int .i64 13, .int .i64 10, .int .i64 11, .int .i64 8, .int .i64 12, .int .i64 5, .int .i64 6] 3)
  have HN := hid (num_any M (q + 1) (w1.heap.size) [6, 5, 7, 9, 13, 10, 11, 8, 12, 5, 6] _ (HR1.out.rw hal) (by omega) (by omega) (fun j hj => by
    rw [cell_of_block hER]
    have : j = 0 ∨ j = 1 ∨ j = 2 ∨ j = 3 ∨ j = 4 ∨ j = 5 ∨ j = 6 ∨ j = 7 ∨ j = 8 ∨ j = 9 ∨ j = 10 := by simp at hj; omega
    rcases this with rfl | rfl | rfl | rfl | rfl | rfl | rfl | rfl | rfl | rfl | rfl <;> rfl) (by simp) (by simp))
  have HWa := hid (HW1.out.trans (Rw.of_below hal hM1))
  have HEa := hid ((hal.block _ hs1).trans HE1.out)
  clear hal hER hi
  go_wp2_with fail
  refine HN.out.mono ?_
  rintro e w2 ⟨k, rfl, hk, hR2, hW2⟩
  have HR2 := hid hR2
  have HW2 := hid (HWa.out.trans hW2)
  have HER := hid (hW2.block HEa.out (by omega))
  have hM2 : M < w2.heap.size := HR2.out.lt
  have hs2 := lt_of_block HER.out
  have hkk : k = 5 ∨ k = 13 ∨ k = 6 ∨ k = 7 ∨ k = 9 ∨ k = 10 ∨ k = 11 ∨ k = 8 ∨ k = 12 := by
    simp only [List.mem_cons, List.not_mem_nil, or_false] at hk
    omega
  obtain ⟨nk, hnk, hn3⟩ : ∃ nk : Nat, kidsM k = nk ∧ nk ≤ 3 := by
    rcases hkk with rfl | rfl | rfl | rfl | rfl | rfl | rfl | rfl | rfl
    · exact ⟨1, by decide, by omega⟩
    · exact ⟨1, by decide, by omega⟩
    · exact ⟨2, by decide, by omega⟩
    · exact ⟨2, by decide, by omega⟩
    · exact ⟨3, by decide, by omega⟩
    · exact ⟨2, by decide, by omega⟩
    · exact ⟨1, by decide, by omega⟩
    · exact ⟨2, by decide, by omega⟩
    · exact ⟨1, by decide, by omega⟩
  have HNK := hid hnk
  have hbE : Below w2.heap.size w2 (w2.alloc (Obj.cells #[.int .i64 k, .string ⟨#[]⟩, .int .i64 0, .int .i64 0, .slice none 0 0, .int .i64 0, .slice none 0 0, .int .i64 0, .slice none 0 0] 35)) := (Below.refl _ _).alloc (Nat.le_refl _) _
  have HRE := hid (HR2.out.rw hbE)
  have HWE := hid (Rw.of_below hbE hM2)
  have hsE : (w2.alloc (Obj.cells #[.int .i64 k, .string ⟨#[]⟩, .int .i64 0, .int .i64 0, .slice none 0 0, .int .i64 0, .slice none 0 0, .int .i64 0, .slice none 0 0] 35)).heap.size = w2.heap.size + 1 := by simp
  have HEX := hid (alloc_new w2 (Obj.cells #[.int .i64 k, .string ⟨#[]⟩, .int .i64 0, .int .i64 0, .slice none 0 0, .int .i64 0, .slice none 0 0, .int .i64 0, .slice none 0 0] 35))
  clear hR2 hW2 hnk hbE
  by_cases h5 : k = 5
  · subst h5
    have hal : Below (w2.alloc (Obj.cells #[.int .i64 5, .string ⟨#[]⟩, .int .i64 0, .int .i64 0, .slice none 0 0, .int .i64 0, .slice none 0 0, .int .i64 0, .slice none 0 0] 35)).heap.size (w2.alloc (Obj.cells #[.int .i64 5, .string ⟨#[]⟩, .int .i64 0, .int .i64 0, .slice none 0 0, .int .i64 0, .slice none 0 0, .int .i64 0, .slice none 0 0] 35)) ((w2.alloc (Obj.cells #[.int .i64 5, .string ⟨#[]⟩, .int .i64 0, .int .i64 0, .slice none 0 0, .int .i64 0, .slice none 0 0, .int .i64 0, .slice none 0 0] 35)).alloc (Obj.cells #[.string ⟨#[120]⟩, .string ⟨#[121]⟩, .string ⟨#[122]⟩, .string ⟨#[102]⟩] 9)) := (Below.refl _ _).alloc (Nat.le_refl _) _
    have hERW := alloc_new (w2.alloc (Obj.cells #[.int .i64 5, .string ⟨#[]⟩, .int .i64 0, .int .i64 0, .slice none 0 0, .int .i64 0, .slice none 0 0, .int .i64 0, .slice none 0 0] 35)) (Obj.cells #[.string ⟨#[120]⟩, .string ⟨#[121]⟩, .string ⟨#[122]⟩, .string ⟨#[102]⟩] 9)
    rw [hsE] at hERW
    have HO := hid (of_any M (q + 2) (w2.heap.size + 1) [⟨#[120]⟩, ⟨#[121]⟩, ⟨#[122]⟩, ⟨#[102]⟩] _ (HRE.out.rw hal) (by omega) (by omega) (fun j hj => by
      rw [cell_of_block hERW]
      have : j = 0 ∨ j = 1 ∨ j = 2 ∨ j = 3 := by simp at hj; omega
      rcases this with rfl | rfl | rfl | rfl <;> rfl) (by simp) (by simp))
    have HEX0 := hid ((hal.block _ (by omega)).trans HEX.out)
    have HWE2 := hid (HWE.out.trans (Rw.of_below hal (by omega)))
    clear hal hERW
    go_wp2_with fail
    refine HO.out.mono ?_
    rintro e w3 ⟨nm, rfl, hnm, hR3, hW3⟩
    obtain ⟨c, rfl⟩ : ∃ c : UInt8, nm = ⟨#[c]⟩ := by
      simp only [List.mem_cons, List.not_mem_nil, or_false] at hnm
      rcases hnm with rfl | rfl | rfl | rfl <;> exact ⟨_, rfl⟩
    have hE3 := hW3.block HEX0.out (by omega)
    obtain ⟨y0, y1, y2, y3, y4, y5, y6, y7, y8⟩ := cells9 hE3
    have yz := fun o => frozen_of_block (o := o) hE3
    have hs3 := lt_of_block hE3
    have hb3 : Below w2.heap.size w3 (w3.setCell ⟨w2.heap.size, 1, none⟩ (.string ⟨#[c]⟩)) := (Below.refl _ _).setCell (p := ⟨w2.heap.size, 1, none⟩) (Nat.le_refl _) _
    have HR3 := hid (hR3.below1 (hb3.mono (by omega)))
    have HW3 := hid ((HWE2.out.trans hW3).tail hb3 hM2)
    have HE3 := hid (show (w3.setCell ⟨w2.heap.size, 1, none⟩ (.string ⟨#[c]⟩)).heap[w2.heap.size]? = some (.cells #[.int .i64 5, .string ⟨#[c]⟩, .int .i64 0, .int .i64 0, .slice none 0 0, .int .i64 0, .slice none 0 0, .int .i64 0, .slice none 0 0] 35 (0, 0)) by rw [heap_setCell_at hE3]; rfl)
    have HAD := hid (fun w' => l2Add_s s s.data.toList c (by omega) w' rfl)
    clear hnm hR3 hW3 hE3 hb3
    go_wp2_with fail
    refine (HAD.out _).mono ?_
    rintro e w4 ⟨rfl, hb4⟩
    have hsl : (⟨(addL s.data.toList c).toArray⟩ : ByteArray).size ≤ s.size + 1 := by
      have h1 := addL_len s.data.toList c
      have h2 : s.data.toList.length = s.size := Array.length_toList
      show (addL s.data.toList c).toArray.size ≤ _
      rw [List.size_toArray]
      omega
    have HR4 := hid (HR3.out.rw hb4)
    have HW4 := hid (HW3.out.trans (Rw.of_below hb4 (by rw [size_setCell]; omega)))
    replace HEX := hid ((hb4.block _ (by rw [size_setCell]; omega)).trans HE3.out)
    have hs4 := lt_of_block HEX.out
    clear hb4 y0 y1 y2 y3 y4 y5 y6 y7 y8 yz
    generalize (⟨(addL s.data.toList c).toArray⟩ : ByteArray) = sb at *
    have hal : Below w4.heap.size w4 (w4.alloc (Obj.cells #[.int .i64 2, .int .i64 1, .int .i64 3, .int .i64 2] 3)) := (Below.refl _ _).alloc (Nat.le_refl _) _
    have hER := alloc_new w4 (Obj.cells #[.int .i64 2, .int .i64 1, .int .i64 3, .int .i64 2] 3)
    have hsx := lt_of_block HEX.out
    have hsz : (w4.alloc (Obj.cells #[.int .i64 2, .int .i64 1, .int .i64 3, .int .i64 2] 3)).heap.size = w4.heap.size + 1 := by simp

    have HN2 := hid (num_any M (q + 3) (w4.heap.size) [2, 1, 3, 2] _ (HR4.out.rw hal) (by omega) (by omega) (fun j hj => by
      rw [cell_of_block hER]
      have : j = 0 ∨ j = 1 ∨ j = 2 ∨ j = 3 := by simp at hj; omega
      rcases this with rfl | rfl | rfl | rfl <;> rfl) (by simp) (by simp))
    have HWY := hid (HW4.out.trans (Rw.of_below hal HR4.out.lt))
    have HEY := hid ((hal.block _ hsx).trans HEX.out)
    clear hal hER
    go_wp2_with fail
    refine HN2.out.mono ?_
    rintro e wy ⟨d0, rfl, hd0, hRy, hWy⟩
    obtain ⟨dd, rfl, hd1, hd3⟩ : ∃ dd : Nat, d0 = dd ∧ 1 ≤ dd ∧ dd ≤ 3 := by
      simp only [List.mem_cons, List.not_mem_nil, or_false] at hd0
      exact ⟨d0.toNat, by omega, by omega, by omega⟩
    have h27 : 3 ^ dd ≤ 27 := by
      have : dd = 1 ∨ dd = 2 ∨ dd = 3 := by omega
      rcases this with rfl | rfl | rfl <;> decide
    have HD := hid (l1Draw_any dd hd1 (by omega) M (q + 3 + 1) wy hRy (by omega))
    have HWZ := hid (HWY.out.trans hWy)
    have HEZ := hid (hWy.block HEY.out (by omega))
    clear hd0 hRy hWy
    go_wp2_with fail
    refine HD.out.mono ?_
    rintro e wz ⟨ty, vt, ft, rfl, hty, hatt, hft, hRz, hWz⟩
    obtain ⟨kt, nt, at', ct, rfl⟩ := hatt.agg
    have hEz := hWz.block HEZ.out (by omega)
    have hcn := cnt_shp4 (shp_up8 (e := 4) (by omega) hty)
    have hez := lt_of_block hEz
    have hey := lt_of_block HEZ.out
    obtain ⟨z0, z1, z2, z3, z4, z5, z6, z7, z8⟩ := cells9 hEz
    have zz := fun o => frozen_of_block (o := o) hEz
    obtain ⟨wp, hwp⟩ : ∃ wp, wp = ((wz.setCell ⟨w2.heap.size, 3, none⟩ (.int .i64 kt)).setCell ⟨w2.heap.size, 4, none⟩ (.slice at' nt ct)) := ⟨_, rfl⟩
    have hbz : Below w2.heap.size wz wp := by rw [hwp]; exact (((Below.refl _ _).setCell (p := ⟨w2.heap.size, 3, none⟩) (Nat.le_refl _) _).setCell (p := ⟨w2.heap.size, 4, none⟩) (Nat.le_refl _) _)
    have haz : Above (w2.heap.size + 1) wz wp := by rw [hwp]; exact (((Above.refl _ _).setCell (p := ⟨w2.heap.size, 3, none⟩) (Nat.lt_succ_self _) _).setCell (p := ⟨w2.heap.size, 4, none⟩) (Nat.lt_succ_self _) _)
    have HTA := hid (And.intro (hatt.above haz (fun b hb => by have := hft.ge b hb; omega)) ((hft.mono (B' := w2.heap.size + 1) (by omega)).above haz (Nat.le_refl _)))
    have HRP := hid ((hRz.below1 (hbz.mono (by omega))).mono (q' := q + 40) (by omega))
    have HWP := hid ((HWZ.out.trans hWz).tail hbz hM2)
    have HEP := hid (show wp.heap[w2.heap.size]? = some (.cells #[.int .i64 5, .string ⟨#[c]⟩, .int .i64 0, .int .i64 kt, .slice at' nt ct, .int .i64 0, .slice none 0 0, .int .i64 0, .slice none 0 0] 35 (0, 0)) by rw [hwp, heap_setCell_at (heap_setCell_at hEz _) _]; rfl)
    have HTC := hid hcn
    have hwps : wp.heap.size = wz.heap.size := by rw [hwp, size_setCell, size_setCell]
    have hE2p : w2.heap.size < wp.heap.size := by omega
    have hM2p : M < wp.heap.size := by omega
    have hEpl : w2.heap.size < wp.heap.size := hE2p
    clear hatt hft hRz hWz hEz hbz haz hty hcn
    go_wp2_with fail
    rw [← hwp]
    clear hwp z0 z1 z2 z3 z4 z5 z6 z7 z8 zz
    go_loopw [9] (fun i wr => ∃ (j : Nat) (v : Value) (f : List Nat) (ds : List Tm), j ≤ nk ∧ i = .int .i64 j ∧ ds.length = j ∧ Hid (∀ t ∈ ds, t.sz ≤ P) ∧ RdAt M (q + 40 + j * P) wr ∧ Rw M w2 wr ∧ wr.heap[w2.heap.size]? = some (.cells #[.int .i64 5, .string ⟨#[c]⟩, .int .i64 0, .int .i64 kt, .slice at' nt ct, .int .i64 0, .slice none 0 0, .int .i64 0, v] 35 (0, 0)) ∧ GrowM wp.heap.size ds v f wr ∧ wp.heap.size ≤ wr.heap.size ∧ Hid (∀ b, b ≠ M → b ≠ w2.heap.size → b < wp.heap.size → wr.heap[b]? = wp.heap[b]?))
      (fun i _ => nk - (intOf i).toNat)
    case atStart => exact ⟨0, .slice none 0 0, [], [], Nat.zero_le _, rfl, rfl, hid (by simp), by simpa using HRP.out, HWP.out, HEP.out, GrowM.zero _ _, Nat.le_refl _, hid (fun _ _ _ _ => rfl)⟩
    case round =>
      obtain ⟨j, v, f, ds, hj, rfl, hdl, HALL, hR, hW, hO, hG, hsp, HX⟩ := hrel
      obtain ⟨y0, y1, y2, y3, y4, y5, y6, y7, y8⟩ := cells9 hO
      have HY := hid (And.intro y0 (And.intro y1 (And.intro y2 (And.intro y3 (And.intro y4 (And.intro y5 (And.intro y6 y7)))))))
      clear y1 y2 y3 y4 y5 y6 y7
      go_wp2_with fail
      refine (l2Kids_any _ _).mono ?_
      rintro e wr' ⟨rfl, rfl⟩
      rw [HNK.out]
      by_cases hlk : j < nk
      · have hlk' : (j : Int) < (nk : Int) := by omega
        have hM : w2.heap.size < wr'.heap.size := lt_of_block hO
        have HLEN := hid hdl
        have hmx : j + 1 ≤ maxLen := by unfold maxLen; omega
        have hby : (j + 1) * 128 ≤ 140737488355328 := by omega
        have hMw3 : M < wr'.heap.size := by omega
        have hq2 : q + 40 + j * P + P ≤ 1000000 := by
          have : j * P ≤ 2 * P := Nat.mul_le_mul_right _ (by omega)
          omega
        have HQ := hid (show q + 40 + j * P + P = q + 40 + (j + 1) * P by rw [Nat.add_mul j 1 P]; omega)
        have hRd := hR.rw (below_drew wr')
        have HIQ := hid (HIH.out M _ sb _ hRd hq2 (by omega))
        have HWD := hid (wrapN (d : Int) (by omega) (by omega))
        have hdw : (((d + 1 : Nat) : Int) - 1) = (d : Int) := by omega
        obtain ⟨av, capv, rfl⟩ := hG.shape
        rw [hdl] at hG y8 hO
        go_wp2_with fail
        have HS0 := hid (show ∀ w', Rw M wr' w' → (fun w' => w'.cell? ⟨w2.heap.size, 8, none⟩ = some (.slice av j capv)) w' from fun w' h => h.cell y8 (by show w2.heap.size ≠ M; omega))
        refine regionL (s := 8) (S0 := (fun w' => w'.cell? ⟨w2.heap.size, 8, none⟩ = some (.slice av j capv))) (S1 := (fun _ => True)) (by kernel_rfl) (HS0.out _ (Rw.drew hMw3)) (trivial) (fun hS0 => ?_)
        refine takeL (i := 0) (v := ?va_1) rfl (by kernel_rfl) (by kernel_rfl) (by kernel_rfl) (by decide) (fun _ _ _ h => h) (Or.inl ⟨by rfl, ?hya_1⟩) (by assumption) ?_
        case hya_1 => (intro w hSw; (try dsimp only at hSw); go_simp; (try with_reducible rfl))
        try simp only [Act.put, List.setIfInBounds_toArray, List.set_cons_zero, List.set_cons_succ]
        refine takeL0 (i := 1) (v := ?va_2) rfl rfl (by kernel_rfl) (by kernel_rfl) (by kernel_rfl) (by decide) (by kernel_rfl) (by kernel_rfl) (fun _ _ _ h => h) (Or.inl ⟨by rfl, ?hya_2⟩) (by assumption) ?_
        case hya_2 => (intro w hSw; (try dsimp only at hSw); go_simp; (try with_reducible rfl))
        try simp only [Act.put, List.setIfInBounds_toArray, List.set_cons_zero, List.set_cons_succ]
        refine takeL (i := 2) (v := ?va_3) rfl (by kernel_rfl) (by kernel_rfl) (by kernel_rfl) (by decide) (fun _ _ _ h => h) (Or.inl ⟨by rfl, ?hya_3⟩) (by assumption) ?_
        case hya_3 => (intro w hSw; (try dsimp only at hSw); go_simp; (try with_reducible rfl))
        try simp only [Act.put, List.setIfInBounds_toArray, List.set_cons_zero, List.set_cons_succ]
        refine takeL (i := 3) (v := ?va_4) rfl (by kernel_rfl) (by kernel_rfl) (by kernel_rfl) (by decide) (fun _ _ _ h => h) (Or.inl ⟨by rfl, ?hya_4⟩) (by assumption) ?_
        case hya_4 => (intro w hSw; (try dsimp only at hSw); go_simp; (try with_reducible rfl))
        try simp only [Act.put, List.setIfInBounds_toArray, List.set_cons_zero, List.set_cons_succ]
        refine takeL (i := 4) (v := ?va_5) rfl (by kernel_rfl) (by kernel_rfl) (by kernel_rfl) (by decide) (fun _ _ _ h => h) (Or.inl ⟨by rfl, ?hya_5⟩) (by assumption) ?_
        case hya_5 => (intro w hSw; (try dsimp only at hSw); go_simp; (try with_reducible rfl))
        try simp only [Act.put, List.setIfInBounds_toArray, List.set_cons_zero, List.set_cons_succ]
        refine takeL (i := 5) (v := ?va_6) rfl (by kernel_rfl) (by kernel_rfl) (by kernel_rfl) (by decide) (fun _ _ _ h => h) (Or.inl ⟨by rfl, ?hya_6⟩) (by assumption) ?_
        case hya_6 => (intro w hSw; (try dsimp only at hSw); go_simp; (try with_reducible rfl))
        try simp only [Act.put, List.setIfInBounds_toArray, List.set_cons_zero, List.set_cons_succ]
        refine readyL (rs := [6]) (by kernel_rfl) (by simp) ?_
        refine AllReadyL.cons rfl (fun K hK => ?_) AllReadyL.nil
        go_simp
        rw [HWD.out]
        refine HIQ.out.mono ?_
        rintro e w3 ⟨u, vu, fu, rfl, hsu, hau, hfu, hR3, hW3⟩
        obtain ⟨r0, r1, r2, r3, r4, r5, r6, r7, r8, r9, r10, r11, r12, r13, r14, rfl⟩ := hau.agg
        have hWd := (Rw.drew hMw3).trans hW3
        have hsw3 := hWd.size
        obtain ⟨xs, ho1, ha1, hf1, hn1⟩ := hG.rw (by omega) hWd
        have ho2 := ho1
        rw [HLEN.out] at ho2
        have hO1 := hWd.block hO (by omega)
        have hM1' := lt_of_block hO1
        have hA3 : Below w3.heap.size w3 (w3.alloc (Obj.cells (Array.mk [.int .i64 r0, .string r1, .int .i64 r2, .int .i64 r3, .slice r5 r4 r6, .int .i64 r7, .slice r9 r8 r10, .int .i64 r11, .slice r13 r12 r14]) 35)) := (Below.refl _ _).alloc (Nat.le_refl _) _
        refine hK.out _ _ ?_ (fun hS1 => ?_)
        · exact ⟨trivial, fun _ => HS0.out _ hWd⟩
        clear hK K hS0
        try simp only [Act.put, List.setIfInBounds_toArray, List.set_cons_zero, List.set_cons_succ]
        refine readyL (rs := [7]) (by kernel_rfl) (by simp) ?_
        refine AllReadyL.cons rfl (fun K hK => ?_) AllReadyL.nil
        go_simp
        refine hK.out _ _ ?_ (fun hS2 => ?_)
        · exact ⟨trivial, fun _ => HS0.out _ (hWd.trans (Rw.of_below hA3 (by omega)))⟩
        clear hK K hS1
        try simp only [Act.put, List.setIfInBounds_toArray, List.set_cons_zero, List.set_cons_succ]
        refine readyL (rs := [8]) (by kernel_rfl) (by simp) ?_
        refine AllReadyL.cons rfl (fun K hK => ?_) AllReadyL.nil
        refine step_append_lies _ (by rfl) _ _ _ (by rfl) wp.heap.size 35 i0 _ 9 128 Tryd.underElemsM hi0 hz0 hz1 hz2 rfl (by omega) (.slice av j capv) j xs (by rfl) (ho2.alloc _) ⟨w3.heap.size, 0, none⟩ 1 1 [.int .i64 r0, .string r1, .int .i64 r2, .int .i64 r3, .slice r5 r4 r6, .int .i64 r7, .slice r9 r8 r10, .int .i64 r11, .slice r13 r12 r14] (by rfl) (by rfl) (World.news_of_block (cs := Array.mk [.int .i64 r0, .string r1, .int .i64 r2, .int .i64 r3, .slice r5 r4 r6, .int .i64 r7, .slice r9 r8 r10, .int .i64 r11, .slice r13 r12 r14]) (t := 35) (fr := (0, 0)) (heap_alloc_new w3 _)) (by simp [Value.oneCell']) (by omega) hmx hby (by simp; omega) (w3.heap.size + 1) (by simp) ?_
        intro g cp w4 hown3 hgrow hat3 hlt3
        have hO3 := grow_keep hgrow ((Below.heap_alloc _ _ _ hM1').trans hO1) (own_ne9 ho2 (by omega))
        have z1 := (cell_of_block (o := 8) hO3)
        have z2 := (frozen_of_block (o := 8) hO3)
        refine hK.out _ _ ?_ (fun hS3 => ?_)
        · exact ⟨trivial, fun h => absurd (h.symm.trans (show _ = true by kernel_rfl)) (by decide)⟩
        clear hK K hS2
        try simp only [Act.put, List.setIfInBounds_toArray, List.set_cons_zero, List.set_cons_succ]
        refine takeL (i := 9) (v := ?va_7) rfl (by kernel_rfl) (by kernel_rfl) (by kernel_rfl) (by decide) (fun _ _ _ h => h) (Or.inl ⟨by rfl, ?hya_7⟩) (by assumption) ?_
        case hya_7 => (intro w hSw; (try dsimp only at hSw); go_simp; (try with_reducible rfl))
        try simp only [Act.put, List.setIfInBounds_toArray, List.set_cons_zero, List.set_cons_succ]
        refine readyL (rs := [10]) (by kernel_rfl) (by simp) ?_
        refine AllReadyL.cons rfl (fun K hK => ?_) AllReadyL.nil
        go_simp
        refine hK.out _ _ ?_ (fun hS4 => ?_)
        · exact ⟨trivial, fun h => absurd (h.symm.trans (show _ = true by kernel_rfl)) (by decide)⟩
        clear hK K hS3
        try simp only [Act.put, List.setIfInBounds_toArray, List.set_cons_zero, List.set_cons_succ]
        refine doneL (by kernel_rfl) ?_ _
        have hw3 : Below w2.heap.size w3 w4 := ((Below.refl _ _).alloc (by omega) _).grown hgrow (by simp; omega) (fun b hb => by have := (ho2.lt b hb).1; omega)
        have HXN := hid (dm_step (P := wp) HX.out hWd hgrow (fun b hb => (ho2.lt b hb).1) hsp (by have := hW3.size; simpa using this))
        have HRN := hid (fun (o : Nat) (u : Value) => hR3.below1 ((hw3.setCell (p := ⟨w2.heap.size, o, none⟩) (Nat.le_refl _) u).mono (by omega)))
        have HWN := hid (fun (o : Nat) (u : Value) => (hW.trans hWd).tail (hw3.setCell (p := ⟨w2.heap.size, o, none⟩) (Nat.le_refl _) u) hM2)
        have hG3 := GrowM.step (w := wr') ha1 hf1 hn1 hG.block.1 hG.block.2 hsp (by rfl) hau hfu ((Below.refl _ _).alloc (Nat.le_refl _) _) hgrow hown3 (by rw [HLEN.out]) (by simpa using hat3)
        have HO3 := hid hO3
        have HSZ4 := hid (show wp.heap.size ≤ w4.heap.size from Nat.le_trans hsp (Nat.le_trans hWd.size (Nat.le_trans hA3.size hgrow.size)))
        have HG3 := hid (hG3.setCell (p := ⟨w2.heap.size, 8, none⟩) (by simpa using hE2p) (.slice (some ⟨g, 0, none⟩) (j + 1) cp))
        have HSU := hid hsu
        clear hO1 hO ha1 hf1 hn1 hau hfu hgrow hown3 hat3 hlt3 ho1 ho2 hWd hw3 hG z1 z2 y0 y8 hR hR3 hW hW3 hRd hG3 hO3 hA3 HY
        go_wp2_with fail
        refine ⟨⟨j + 1, _, _, ds ++ [u], by omega, by go_num, by simp [HLEN.out], hid (fun t ht => ?_), by rw [← HQ.out]; exact HRN.out _ _, HWN.out _ _, ?_, HG3.out, by rw [size_setCell]; exact HSZ4.out, hid (fun b h1 h2 h3 => (Below.heap_setCell _ _ _ _ (by show b ≠ w2.heap.size; exact h2)).trans (HXN.out b h1 h2 h3))⟩, by simp [intOf]; omega⟩
        · rcases List.mem_append.1 ht with ht | ht
          · exact HALL.out t ht
          · rw [List.mem_singleton.1 ht]; exact HSU.out
        · rw [heap_setCell_at HO3.out]
          rfl
      · obtain rfl : j = nk := by omega
        have hlk' : ¬ ((j : Int) < (j : Int)) := by omega
        obtain ⟨av, capv, rfl⟩ := hG.shape
        obtain ⟨y0, y1, y2, y3, y4, y5, y6, y7⟩ := HY.out
        have hEw := hW.block HER.out (by omega)
        have r0 := cell_of_block (o := 0) hEw
        have r1 := cell_of_block (o := 1) hEw
        have r2 := cell_of_block (o := 2) hEw
        have r3 := cell_of_block (o := 3) hEw
        have r4 := cell_of_block (o := 4) hEw
        have r5 := cell_of_block (o := 5) hEw
        have r6 := cell_of_block (o := 6) hEw
        have r7 := cell_of_block (o := 7) hEw
        have r8 := cell_of_block (o := 8) hEw
        have rz := fun o => frozen_of_block (o := o) hEw
        have hnms : (⟨#[c]⟩ : ByteArray).size ≤ 1 := by first | decide | exact Nat.le_refl _
        have FIN := hid ((dm_done (S := P) (R := w.heap.size) (k := 5) (nm := ⟨#[c]⟩) HTA.out.1 HTA.out.2 (by unfold maxLen; omega) HTC.out hnms hG (by omega) HALL.out HX.out (HW2.out.trans hW) (by omega) (by omega) hMw hsp (hR.mono (q' := q + Q) (by
          have : j * P ≤ 3 * P := Nat.mul_le_mul_right _ (by omega)
          omega)) hM2p hEpl).up (S' := Q) (Nat.le_refl _) (by omega))
        clear hG hO hR hW hEw HALL HX hdl
        go_wp2_with fail
        exact bodyPost_ret (v := .agg #[.int .i64 5, .string ⟨#[c]⟩, .int .i64 0, .int .i64 kt, .slice at' nt ct, .int .i64 0, .slice none 0 0, .int .i64 0, .slice av ds.length capv]) (by simp [results, Tryd.results165, go_sem, r0, r1, r2, r3, r4, r5, r6, r7, r8]) rfl FIN.out
  have e5 : (k == 5) = false := by rw [beq_eq_false_iff_ne]; exact h5
  by_cases h13 : k = 13
  · subst h13
    have hal : Below (w2.alloc (Obj.cells #[.int .i64 13, .string ⟨#[]⟩, .int .i64 0, .int .i64 0, .slice none 0 0, .int .i64 0, .slice none 0 0, .int .i64 0, .slice none 0 0] 35)).heap.size (w2.alloc (Obj.cells #[.int .i64 13, .string ⟨#[]⟩, .int .i64 0, .int .i64 0, .slice none 0 0, .int .i64 0, .slice none 0 0, .int .i64 0, .slice none 0 0] 35)) ((w2.alloc (Obj.cells #[.int .i64 13, .string ⟨#[]⟩, .int .i64 0, .int .i64 0, .slice none 0 0, .int .i64 0, .slice none 0 0, .int .i64 0, .slice none 0 0] 35)).alloc (Obj.cells #[.int .i64 2, .int .i64 1, .int .i64 3, .int .i64 2] 3)) := (Below.refl _ _).alloc (Nat.le_refl _) _
    have hER := alloc_new (w2.alloc (Obj.cells #[.int .i64 13, .string ⟨#[]⟩, .int .i64 0, .int .i64 0, .slice none 0 0, .int .i64 0, .slice none 0 0, .int .i64 0, .slice none 0 0] 35)) (Obj.cells #[.int .i64 2, .int .i64 1, .int .i64 3, .int .i64 2] 3)
    have hsx := lt_of_block HEX.out
    have hsz : ((w2.alloc (Obj.cells #[.int .i64 13, .string ⟨#[]⟩, .int .i64 0, .int .i64 0, .slice none 0 0, .int .i64 0, .slice none 0 0, .int .i64 0, .slice none 0 0] 35)).alloc (Obj.cells #[.int .i64 2, .int .i64 1, .int .i64 3, .int .i64 2] 3)).heap.size = (w2.alloc (Obj.cells #[.int .i64 13, .string ⟨#[]⟩, .int .i64 0, .int .i64 0, .slice none 0 0, .int .i64 0, .slice none 0 0, .int .i64 0, .slice none 0 0] 35)).heap.size + 1 := by simp
    rw [hsE] at hER
    have HN2 := hid (num_any M (q + 2) (w2.heap.size + 1) [2, 1, 3, 2] _ (HRE.out.rw hal) (by omega) (by omega) (fun j hj => by
      rw [cell_of_block hER]
      have : j = 0 ∨ j = 1 ∨ j = 2 ∨ j = 3 := by simp at hj; omega
      rcases this with rfl | rfl | rfl | rfl <;> rfl) (by simp) (by simp))
    have HWY := hid (HWE.out.trans (Rw.of_below hal HRE.out.lt))
    have HEY := hid ((hal.block _ hsx).trans HEX.out)
    clear hal hER
    go_wp2_with fail
    refine HN2.out.mono ?_
    rintro e wy ⟨d0, rfl, hd0, hRy, hWy⟩
    obtain ⟨dd, rfl, hd1, hd3⟩ : ∃ dd : Nat, d0 = dd ∧ 1 ≤ dd ∧ dd ≤ 3 := by
      simp only [List.mem_cons, List.not_mem_nil, or_false] at hd0
      exact ⟨d0.toNat, by omega, by omega, by omega⟩
    have h27 : 3 ^ dd ≤ 27 := by
      have : dd = 1 ∨ dd = 2 ∨ dd = 3 := by omega
      rcases this with rfl | rfl | rfl <;> decide
    have HD := hid (l1Draw_any dd hd1 (by omega) M (q + 2 + 1) wy hRy (by omega))
    have HWZ := hid (HWY.out.trans hWy)
    have HEZ := hid (hWy.block HEY.out (by omega))
    clear hd0 hRy hWy
    go_wp2_with fail
    refine HD.out.mono ?_
    rintro e wz ⟨ty, vt, ft, rfl, hty, hatt, hft, hRz, hWz⟩
    obtain ⟨kt, nt, at', ct, rfl⟩ := hatt.agg
    have hEz := hWz.block HEZ.out (by omega)
    have hcn := cnt_shp4 (shp_up8 (e := 4) (by omega) hty)
    have hez := lt_of_block hEz
    have hey := lt_of_block HEZ.out
    obtain ⟨z0, z1, z2, z3, z4, z5, z6, z7, z8⟩ := cells9 hEz
    have zz := fun o => frozen_of_block (o := o) hEz
    obtain ⟨wp, hwp⟩ : ∃ wp, wp = ((wz.setCell ⟨w2.heap.size, 3, none⟩ (.int .i64 kt)).setCell ⟨w2.heap.size, 4, none⟩ (.slice at' nt ct)) := ⟨_, rfl⟩
    have hbz : Below w2.heap.size wz wp := by rw [hwp]; exact (((Below.refl _ _).setCell (p := ⟨w2.heap.size, 3, none⟩) (Nat.le_refl _) _).setCell (p := ⟨w2.heap.size, 4, none⟩) (Nat.le_refl _) _)
    have haz : Above (w2.heap.size + 1) wz wp := by rw [hwp]; exact (((Above.refl _ _).setCell (p := ⟨w2.heap.size, 3, none⟩) (Nat.lt_succ_self _) _).setCell (p := ⟨w2.heap.size, 4, none⟩) (Nat.lt_succ_self _) _)
    have HTA := hid (And.intro (hatt.above haz (fun b hb => by have := hft.ge b hb; omega)) ((hft.mono (B' := w2.heap.size + 1) (by omega)).above haz (Nat.le_refl _)))
    have HRP := hid ((hRz.below1 (hbz.mono (by omega))).mono (q' := q + 40) (by omega))
    have HWP := hid ((HWZ.out.trans hWz).tail hbz hM2)
    have HEP := hid (show wp.heap[w2.heap.size]? = some (.cells #[.int .i64 13, .string ⟨#[]⟩, .int .i64 0, .int .i64 kt, .slice at' nt ct, .int .i64 0, .slice none 0 0, .int .i64 0, .slice none 0 0] 35 (0, 0)) by rw [hwp, heap_setCell_at (heap_setCell_at hEz _) _]; rfl)
    have HTC := hid hcn
    have hwps : wp.heap.size = wz.heap.size := by rw [hwp, size_setCell, size_setCell]
    have hE2p : w2.heap.size < wp.heap.size := by omega
    have hM2p : M < wp.heap.size := by omega
    have hEpl : w2.heap.size < wp.heap.size := hE2p
    clear hatt hft hRz hWz hEz hbz haz hty hcn
    go_wp2_with fail
    rw [← hwp]
    clear hwp z0 z1 z2 z3 z4 z5 z6 z7 z8 zz
    go_loopw [9] (fun i wr => ∃ (j : Nat) (v : Value) (f : List Nat) (ds : List Tm), j ≤ nk ∧ i = .int .i64 j ∧ ds.length = j ∧ Hid (∀ t ∈ ds, t.sz ≤ P) ∧ RdAt M (q + 40 + j * P) wr ∧ Rw M w2 wr ∧ wr.heap[w2.heap.size]? = some (.cells #[.int .i64 13, .string ⟨#[]⟩, .int .i64 0, .int .i64 kt, .slice at' nt ct, .int .i64 0, .slice none 0 0, .int .i64 0, v] 35 (0, 0)) ∧ GrowM wp.heap.size ds v f wr ∧ wp.heap.size ≤ wr.heap.size ∧ Hid (∀ b, b ≠ M → b ≠ w2.heap.size → b < wp.heap.size → wr.heap[b]? = wp.heap[b]?))
      (fun i _ => nk - (intOf i).toNat)
    case atStart => exact ⟨0, .slice none 0 0, [], [], Nat.zero_le _, rfl, rfl, hid (by simp), by simpa using HRP.out, HWP.out, HEP.out, GrowM.zero _ _, Nat.le_refl _, hid (fun _ _ _ _ => rfl)⟩
    case round =>
      obtain ⟨j, v, f, ds, hj, rfl, hdl, HALL, hR, hW, hO, hG, hsp, HX⟩ := hrel
      obtain ⟨y0, y1, y2, y3, y4, y5, y6, y7, y8⟩ := cells9 hO
      have HY := hid (And.intro y0 (And.intro y1 (And.intro y2 (And.intro y3 (And.intro y4 (And.intro y5 (And.intro y6 y7)))))))
      clear y1 y2 y3 y4 y5 y6 y7
      go_wp2_with fail
      refine (l2Kids_any _ _).mono ?_
      rintro e wr' ⟨rfl, rfl⟩
      rw [HNK.out]
      by_cases hlk : j < nk
      · have hlk' : (j : Int) < (nk : Int) := by omega
        have hM : w2.heap.size < wr'.heap.size := lt_of_block hO
        have HLEN := hid hdl
        have hmx : j + 1 ≤ maxLen := by unfold maxLen; omega
        have hby : (j + 1) * 128 ≤ 140737488355328 := by omega
        have hMw3 : M < wr'.heap.size := by omega
        have hq2 : q + 40 + j * P + P ≤ 1000000 := by
          have : j * P ≤ 2 * P := Nat.mul_le_mul_right _ (by omega)
          omega
        have HQ := hid (show q + 40 + j * P + P = q + 40 + (j + 1) * P by rw [Nat.add_mul j 1 P]; omega)
        have hRd := hR.rw (below_drew wr')
        have HIQ := hid (HIH.out M _ s _ hRd hq2 (by omega))
        have HWD := hid (wrapN (d : Int) (by omega) (by omega))
        have hdw : (((d + 1 : Nat) : Int) - 1) = (d : Int) := by omega
        obtain ⟨av, capv, rfl⟩ := hG.shape
        rw [hdl] at hG y8 hO
        go_wp2_with fail
        have HS0 := hid (show ∀ w', Rw M wr' w' → (fun w' => w'.cell? ⟨w2.heap.size, 8, none⟩ = some (.slice av j capv)) w' from fun w' h => h.cell y8 (by show w2.heap.size ≠ M; omega))
        refine regionL (s := 8) (S0 := (fun w' => w'.cell? ⟨w2.heap.size, 8, none⟩ = some (.slice av j capv))) (S1 := (fun _ => True)) (by kernel_rfl) (HS0.out _ (Rw.drew hMw3)) (trivial) (fun hS0 => ?_)
        refine takeL (i := 0) (v := ?vb_1) rfl (by kernel_rfl) (by kernel_rfl) (by kernel_rfl) (by decide) (fun _ _ _ h => h) (Or.inl ⟨by rfl, ?hyb_1⟩) (by assumption) ?_
        case hyb_1 => (intro w hSw; (try dsimp only at hSw); go_simp; (try with_reducible rfl))
        try simp only [Act.put, List.setIfInBounds_toArray, List.set_cons_zero, List.set_cons_succ]
        refine takeL0 (i := 1) (v := ?vb_2) rfl rfl (by kernel_rfl) (by kernel_rfl) (by kernel_rfl) (by decide) (by kernel_rfl) (by kernel_rfl) (fun _ _ _ h => h) (Or.inl ⟨by rfl, ?hyb_2⟩) (by assumption) ?_
        case hyb_2 => (intro w hSw; (try dsimp only at hSw); go_simp; (try with_reducible rfl))
        try simp only [Act.put, List.setIfInBounds_toArray, List.set_cons_zero, List.set_cons_succ]
        refine takeL (i := 2) (v := ?vb_3) rfl (by kernel_rfl) (by kernel_rfl) (by kernel_rfl) (by decide) (fun _ _ _ h => h) (Or.inl ⟨by rfl, ?hyb_3⟩) (by assumption) ?_
        case hyb_3 => (intro w hSw; (try dsimp only at hSw); go_simp; (try with_reducible rfl))
        try simp only [Act.put, List.setIfInBounds_toArray, List.set_cons_zero, List.set_cons_succ]
        refine takeL (i := 3) (v := ?vb_4) rfl (by kernel_rfl) (by kernel_rfl) (by kernel_rfl) (by decide) (fun _ _ _ h => h) (Or.inl ⟨by rfl, ?hyb_4⟩) (by assumption) ?_
        case hyb_4 => (intro w hSw; (try dsimp only at hSw); go_simp; (try with_reducible rfl))
        try simp only [Act.put, List.setIfInBounds_toArray, List.set_cons_zero, List.set_cons_succ]
        refine takeL (i := 4) (v := ?vb_5) rfl (by kernel_rfl) (by kernel_rfl) (by kernel_rfl) (by decide) (fun _ _ _ h => h) (Or.inl ⟨by rfl, ?hyb_5⟩) (by assumption) ?_
        case hyb_5 => (intro w hSw; (try dsimp only at hSw); go_simp; (try with_reducible rfl))
        try simp only [Act.put, List.setIfInBounds_toArray, List.set_cons_zero, List.set_cons_succ]
        refine takeL (i := 5) (v := ?vb_6) rfl (by kernel_rfl) (by kernel_rfl) (by kernel_rfl) (by decide) (fun _ _ _ h => h) (Or.inl ⟨by rfl, ?hyb_6⟩) (by assumption) ?_
        case hyb_6 => (intro w hSw; (try dsimp only at hSw); go_simp; (try with_reducible rfl))
        try simp only [Act.put, List.setIfInBounds_toArray, List.set_cons_zero, List.set_cons_succ]
        refine readyL (rs := [6]) (by kernel_rfl) (by simp) ?_
        refine AllReadyL.cons rfl (fun K hK => ?_) AllReadyL.nil
        go_simp
        rw [HWD.out]
        refine HIQ.out.mono ?_
        rintro e w3 ⟨u, vu, fu, rfl, hsu, hau, hfu, hR3, hW3⟩
        obtain ⟨r0, r1, r2, r3, r4, r5, r6, r7, r8, r9, r10, r11, r12, r13, r14, rfl⟩ := hau.agg
        have hWd := (Rw.drew hMw3).trans hW3
        have hsw3 := hWd.size
        obtain ⟨xs, ho1, ha1, hf1, hn1⟩ := hG.rw (by omega) hWd
        have ho2 := ho1
        rw [HLEN.out] at ho2
        have hO1 := hWd.block hO (by omega)
        have hM1' := lt_of_block hO1
        have hA3 : Below w3.heap.size w3 (w3.alloc (Obj.cells (Array.mk [.int .i64 r0, .string r1, .int .i64 r2, .int .i64 r3, .slice r5 r4 r6, .int .i64 r7, .slice r9 r8 r10, .int .i64 r11, .slice r13 r12 r14]) 35)) := (Below.refl _ _).alloc (Nat.le_refl _) _
        refine hK.out _ _ ?_ (fun hS1 => ?_)
        · exact ⟨trivial, fun _ => HS0.out _ hWd⟩
        clear hK K hS0
        try simp only [Act.put, List.setIfInBounds_toArray, List.set_cons_zero, List.set_cons_succ]
        refine readyL (rs := [7]) (by kernel_rfl) (by simp) ?_
        refine AllReadyL.cons rfl (fun K hK => ?_) AllReadyL.nil
        go_simp
        refine hK.out _ _ ?_ (fun hS2 => ?_)
        · exact ⟨trivial, fun _ => HS0.out _ (hWd.trans (Rw.of_below hA3 (by omega)))⟩
        clear hK K hS1
        try simp only [Act.put, List.setIfInBounds_toArray, List.set_cons_zero, List.set_cons_succ]
        refine readyL (rs := [8]) (by kernel_rfl) (by simp) ?_
        refine AllReadyL.cons rfl (fun K hK => ?_) AllReadyL.nil
        refine step_append_lies _ (by rfl) _ _ _ (by rfl) wp.heap.size 35 i0 _ 9 128 Tryd.underElemsM hi0 hz0 hz1 hz2 rfl (by omega) (.slice av j capv) j xs (by rfl) (ho2.alloc _) ⟨w3.heap.size, 0, none⟩ 1 1 [.int .i64 r0, .string r1, .int .i64 r2, .int .i64 r3, .slice r5 r4 r6, .int .i64 r7, .slice r9 r8 r10, .int .i64 r11, .slice r13 r12 r14] (by rfl) (by rfl) (World.news_of_block (cs := Array.mk [.int .i64 r0, .string r1, .int .i64 r2, .int .i64 r3, .slice r5 r4 r6, .int .i64 r7, .slice r9 r8 r10, .int .i64 r11, .slice r13 r12 r14]) (t := 35) (fr := (0, 0)) (heap_alloc_new w3 _)) (by simp [Value.oneCell']) (by omega) hmx hby (by simp; omega) (w3.heap.size + 1) (by simp) ?_
        intro g cp w4 hown3 hgrow hat3 hlt3
        have hO3 := grow_keep hgrow ((Below.heap_alloc _ _ _ hM1').trans hO1) (own_ne9 ho2 (by omega))
        have z1 := (cell_of_block (o := 8) hO3)
        have z2 := (frozen_of_block (o := 8) hO3)
        refine hK.out _ _ ?_ (fun hS3 => ?_)
        · exact ⟨trivial, fun h => absurd (h.symm.trans (show _ = true by kernel_rfl)) (by decide)⟩
        clear hK K hS2
        try simp only [Act.put, List.setIfInBounds_toArray, List.set_cons_zero, List.set_cons_succ]
        refine takeL (i := 9) (v := ?vb_7) rfl (by kernel_rfl) (by kernel_rfl) (by kernel_rfl) (by decide) (fun _ _ _ h => h) (Or.inl ⟨by rfl, ?hyb_7⟩) (by assumption) ?_
        case hyb_7 => (intro w hSw; (try dsimp only at hSw); go_simp; (try with_reducible rfl))
        try simp only [Act.put, List.setIfInBounds_toArray, List.set_cons_zero, List.set_cons_succ]
        refine readyL (rs := [10]) (by kernel_rfl) (by simp) ?_
        refine AllReadyL.cons rfl (fun K hK => ?_) AllReadyL.nil
        go_simp
        refine hK.out _ _ ?_ (fun hS4 => ?_)
        · exact ⟨trivial, fun h => absurd (h.symm.trans (show _ = true by kernel_rfl)) (by decide)⟩
        clear hK K hS3
        try simp only [Act.put, List.setIfInBounds_toArray, List.set_cons_zero, List.set_cons_succ]
        refine doneL (by kernel_rfl) ?_ _
        have hw3 : Below w2.heap.size w3 w4 := ((Below.refl _ _).alloc (by omega) _).grown hgrow (by simp; omega) (fun b hb => by have := (ho2.lt b hb).1; omega)
        have HXN := hid (dm_step (P := wp) HX.out hWd hgrow (fun b hb => (ho2.lt b hb).1) hsp (by have := hW3.size; simpa using this))
        have HRN := hid (fun (o : Nat) (u : Value) => hR3.below1 ((hw3.setCell (p := ⟨w2.heap.size, o, none⟩) (Nat.le_refl _) u).mono (by omega)))
        have HWN := hid (fun (o : Nat) (u : Value) => (hW.trans hWd).tail (hw3.setCell (p := ⟨w2.heap.size, o, none⟩) (Nat.le_refl _) u) hM2)
        have hG3 := GrowM.step (w := wr') ha1 hf1 hn1 hG.block.1 hG.block.2 hsp (by rfl) hau hfu ((Below.refl _ _).alloc (Nat.le_refl _) _) hgrow hown3 (by rw [HLEN.out]) (by simpa using hat3)
        have HO3 := hid hO3
        have HSZ4 := hid (show wp.heap.size ≤ w4.heap.size from Nat.le_trans hsp (Nat.le_trans hWd.size (Nat.le_trans hA3.size hgrow.size)))
        have HG3 := hid (hG3.setCell (p := ⟨w2.heap.size, 8, none⟩) (by simpa using hE2p) (.slice (some ⟨g, 0, none⟩) (j + 1) cp))
        have HSU := hid hsu
        clear hO1 hO ha1 hf1 hn1 hau hfu hgrow hown3 hat3 hlt3 ho1 ho2 hWd hw3 hG z1 z2 y0 y8 hR hR3 hW hW3 hRd hG3 hO3 hA3 HY
        go_wp2_with fail
        refine ⟨⟨j + 1, _, _, ds ++ [u], by omega, by go_num, by simp [HLEN.out], hid (fun t ht => ?_), by rw [← HQ.out]; exact HRN.out _ _, HWN.out _ _, ?_, HG3.out, by rw [size_setCell]; exact HSZ4.out, hid (fun b h1 h2 h3 => (Below.heap_setCell _ _ _ _ (by show b ≠ w2.heap.size; exact h2)).trans (HXN.out b h1 h2 h3))⟩, by simp [intOf]; omega⟩
        · rcases List.mem_append.1 ht with ht | ht
          · exact HALL.out t ht
          · rw [List.mem_singleton.1 ht]; exact HSU.out
        · rw [heap_setCell_at HO3.out]
          rfl
      · obtain rfl : j = nk := by omega
        have hlk' : ¬ ((j : Int) < (j : Int)) := by omega
        obtain ⟨av, capv, rfl⟩ := hG.shape
        obtain ⟨y0, y1, y2, y3, y4, y5, y6, y7⟩ := HY.out
        have hEw := hW.block HER.out (by omega)
        have r0 := cell_of_block (o := 0) hEw
        have r1 := cell_of_block (o := 1) hEw
        have r2 := cell_of_block (o := 2) hEw
        have r3 := cell_of_block (o := 3) hEw
        have r4 := cell_of_block (o := 4) hEw
        have r5 := cell_of_block (o := 5) hEw
        have r6 := cell_of_block (o := 6) hEw
        have r7 := cell_of_block (o := 7) hEw
        have r8 := cell_of_block (o := 8) hEw
        have rz := fun o => frozen_of_block (o := o) hEw
        have hnms : (⟨#[]⟩ : ByteArray).size ≤ 1 := by first | decide | exact Nat.le_refl _
        have FIN := hid ((dm_done (S := P) (R := w.heap.size) (k := 13) (nm := ⟨#[]⟩) HTA.out.1 HTA.out.2 (by unfold maxLen; omega) HTC.out hnms hG (by omega) HALL.out HX.out (HW2.out.trans hW) (by omega) (by omega) hMw hsp (hR.mono (q' := q + Q) (by
          have : j * P ≤ 3 * P := Nat.mul_le_mul_right _ (by omega)
          omega)) hM2p hEpl).up (S' := Q) (Nat.le_refl _) (by omega))
        clear hG hO hR hW hEw HALL HX hdl
        go_wp2_with fail
        exact bodyPost_ret (v := .agg #[.int .i64 13, .string ⟨#[]⟩, .int .i64 0, .int .i64 kt, .slice at' nt ct, .int .i64 0, .slice none 0 0, .int .i64 0, .slice av ds.length capv]) (by simp [results, Tryd.results165, go_sem, r0, r1, r2, r3, r4, r5, r6, r7, r8]) rfl FIN.out
  have e13 : (k == 13) = false := by rw [beq_eq_false_iff_ne]; exact h13
  obtain ⟨wp, hwp⟩ : ∃ wp, wp = (w2.alloc (Obj.cells #[.int .i64 k, .string ⟨#[]⟩, .int .i64 0, .int .i64 0, .slice none 0 0, .int .i64 0, .slice none 0 0, .int .i64 0, .slice none 0 0] 35)) := ⟨_, rfl⟩
  have HTA : Hid (Ty.At wp (.mk 0 []) (.agg #[.int .i64 0, .slice none 0 0]) [] ∧ Fresh (w2.heap.size + 1) wp []) := hid ⟨Ty.at_mk.2 ⟨_, rfl, .inl ⟨rfl, rfl, _, _, rfl⟩⟩, Fresh.nil _ _⟩
  have HTC : Hid ((Ty.mk 0 []).cnt ≤ 30) := hid (by simp [Ty.cnt, cntL])
  have HRP := hid (HRE.out.mono (q' := q + 40) (by omega))
  have HWP := hid HWE.out
  have HEP := hid HEX.out
  have hwps := hsE
  rw [← hwp] at HRP HWP HEP hwps
  have hE2p : w2.heap.size < wp.heap.size := by omega
  have hM2p : M < wp.heap.size := by omega
  have hEpl : w2.heap.size < wp.heap.size := hE2p
  go_wp2_with fail
  rw [← hwp]
  clear hwp HEX HRE HWE
  go_loopw [9] (fun i wr => ∃ (j : Nat) (v : Value) (f : List Nat) (ds : List Tm), j ≤ nk ∧ i = .int .i64 j ∧ ds.length = j ∧ Hid (∀ t ∈ ds, t.sz ≤ P) ∧ RdAt M (q + 40 + j * P) wr ∧ Rw M w2 wr ∧ wr.heap[w2.heap.size]? = some (.cells #[.int .i64 k, .string ⟨#[]⟩, .int .i64 0, .int .i64 0, .slice none 0 0, .int .i64 0, .slice none 0 0, .int .i64 0, v] 35 (0, 0)) ∧ GrowM wp.heap.size ds v f wr ∧ wp.heap.size ≤ wr.heap.size ∧ Hid (∀ b, b ≠ M → b ≠ w2.heap.size → b < wp.heap.size → wr.heap[b]? = wp.heap[b]?))
    (fun i _ => nk - (intOf i).toNat)
  case atStart => exact ⟨0, .slice none 0 0, [], [], Nat.zero_le _, rfl, rfl, hid (by simp), by simpa using HRP.out, HWP.out, HEP.out, GrowM.zero _ _, Nat.le_refl _, hid (fun _ _ _ _ => rfl)⟩
  case round =>
    obtain ⟨j, v, f, ds, hj, rfl, hdl, HALL, hR, hW, hO, hG, hsp, HX⟩ := hrel
    obtain ⟨y0, y1, y2, y3, y4, y5, y6, y7, y8⟩ := cells9 hO
    have HY := hid (And.intro y0 (And.intro y1 (And.intro y2 (And.intro y3 (And.intro y4 (And.intro y5 (And.intro y6 y7)))))))
    clear y1 y2 y3 y4 y5 y6 y7
    go_wp2_with fail
    refine (l2Kids_any _ _).mono ?_
    rintro e wr' ⟨rfl, rfl⟩
    rw [HNK.out]
    by_cases hlk : j < nk
    · have hlk' : (j : Int) < (nk : Int) := by omega
      have hM : w2.heap.size < wr'.heap.size := lt_of_block hO
      have HLEN := hid hdl
      have hmx : j + 1 ≤ maxLen := by unfold maxLen; omega
      have hby : (j + 1) * 128 ≤ 140737488355328 := by omega
      have hMw3 : M < wr'.heap.size := by omega
      have hq2 : q + 40 + j * P + P ≤ 1000000 := by
        have : j * P ≤ 2 * P := Nat.mul_le_mul_right _ (by omega)
        omega
      have HQ := hid (show q + 40 + j * P + P = q + 40 + (j + 1) * P by rw [Nat.add_mul j 1 P]; omega)
      have hRd := hR.rw (below_drew wr')
      have HIQ := hid (HIH.out M _ s _ hRd hq2 (by omega))
      have HWD := hid (wrapN (d : Int) (by omega) (by omega))
      have hdw : (((d + 1 : Nat) : Int) - 1) = (d : Int) := by omega
      obtain ⟨av, capv, rfl⟩ := hG.shape
      rw [hdl] at hG y8 hO
      go_wp2_with fail
      have HS0 := hid (show ∀ w', Rw M wr' w' → (fun w' => w'.cell? ⟨w2.heap.size, 8, none⟩ = some (.slice av j capv)) w' from fun w' h => h.cell y8 (by show w2.heap.size ≠ M; omega))
      refine regionL (s := 8) (S0 := (fun w' => w'.cell? ⟨w2.heap.size, 8, none⟩ = some (.slice av j capv))) (S1 := (fun _ => True)) (by kernel_rfl) (HS0.out _ (Rw.drew hMw3)) (trivial) (fun hS0 => ?_)
      refine takeL (i := 0) (v := ?vc_1) rfl (by kernel_rfl) (by kernel_rfl) (by kernel_rfl) (by decide) (fun _ _ _ h => h) (Or.inl ⟨by rfl, ?hyc_1⟩) (by assumption) ?_
      case hyc_1 => (intro w hSw; (try dsimp only at hSw); go_simp; (try with_reducible rfl))
      try simp only [Act.put, List.setIfInBounds_toArray, List.set_cons_zero, List.set_cons_succ]
      refine takeL0 (i := 1) (v := ?vc_2) rfl rfl (by kernel_rfl) (by kernel_rfl) (by kernel_rfl) (by decide) (by kernel_rfl) (by kernel_rfl) (fun _ _ _ h => h) (Or.inl ⟨by rfl, ?hyc_2⟩) (by assumption) ?_
      case hyc_2 => (intro w hSw; (try dsimp only at hSw); go_simp; (try with_reducible rfl))
      try simp only [Act.put, List.setIfInBounds_toArray, List.set_cons_zero, List.set_cons_succ]
      refine takeL (i := 2) (v := ?vc_3) rfl (by kernel_rfl) (by kernel_rfl) (by kernel_rfl) (by decide) (fun _ _ _ h => h) (Or.inl ⟨by rfl, ?hyc_3⟩) (by assumption) ?_
      case hyc_3 => (intro w hSw; (try dsimp only at hSw); go_simp; (try with_reducible rfl))
      try simp only [Act.put, List.setIfInBounds_toArray, List.set_cons_zero, List.set_cons_succ]
      refine takeL (i := 3) (v := ?vc_4) rfl (by kernel_rfl) (by kernel_rfl) (by kernel_rfl) (by decide) (fun _ _ _ h => h) (Or.inl ⟨by rfl, ?hyc_4⟩) (by assumption) ?_
      case hyc_4 => (intro w hSw; (try dsimp only at hSw); go_simp; (try with_reducible rfl))
      try simp only [Act.put, List.setIfInBounds_toArray, List.set_cons_zero, List.set_cons_succ]
      refine takeL (i := 4) (v := ?vc_5) rfl (by kernel_rfl) (by kernel_rfl) (by kernel_rfl) (by decide) (fun _ _ _ h => h) (Or.inl ⟨by rfl, ?hyc_5⟩) (by assumption) ?_
      case hyc_5 => (intro w hSw; (try dsimp only at hSw); go_simp; (try with_reducible rfl))
      try simp only [Act.put, List.setIfInBounds_toArray, List.set_cons_zero, List.set_cons_succ]
      refine takeL (i := 5) (v := ?vc_6) rfl (by kernel_rfl) (by kernel_rfl) (by kernel_rfl) (by decide) (fun _ _ _ h => h) (Or.inl ⟨by rfl, ?hyc_6⟩) (by assumption) ?_
      case hyc_6 => (intro w hSw; (try dsimp only at hSw); go_simp; (try with_reducible rfl))
      try simp only [Act.put, List.setIfInBounds_toArray, List.set_cons_zero, List.set_cons_succ]
      refine readyL (rs := [6]) (by kernel_rfl) (by simp) ?_
      refine AllReadyL.cons rfl (fun K hK => ?_) AllReadyL.nil
      go_simp
      rw [HWD.out]
      refine HIQ.out.mono ?_
      rintro e w3 ⟨u, vu, fu, rfl, hsu, hau, hfu, hR3, hW3⟩
      obtain ⟨r0, r1, r2, r3, r4, r5, r6, r7, r8, r9, r10, r11, r12, r13, r14, rfl⟩ := hau.agg
      have hWd := (Rw.drew hMw3).trans hW3
      have hsw3 := hWd.size
      obtain ⟨xs, ho1, ha1, hf1, hn1⟩ := hG.rw (by omega) hWd
      have ho2 := ho1
      rw [HLEN.out] at ho2
      have hO1 := hWd.block hO (by omega)
      have hM1' := lt_of_block hO1
      have hA3 : Below w3.heap.size w3 (w3.alloc (Obj.cells (Array.mk [.int .i64 r0, .string r1, .int .i64 r2, .int .i64 r3, .slice r5 r4 r6, .int .i64 r7, .slice r9 r8 r10, .int .i64 r11, .slice r13 r12 r14]) 35)) := (Below.refl _ _).alloc (Nat.le_refl _) _
      refine hK.out _ _ ?_ (fun hS1 => ?_)
      · exact ⟨trivial, fun _ => HS0.out _ hWd⟩
      clear hK K hS0
      try simp only [Act.put, List.setIfInBounds_toArray, List.set_cons_zero, List.set_cons_succ]
      refine readyL (rs := [7]) (by kernel_rfl) (by simp) ?_
      refine AllReadyL.cons rfl (fun K hK => ?_) AllReadyL.nil
      go_simp
      refine hK.out _ _ ?_ (fun hS2 => ?_)
      · exact ⟨trivial, fun _ => HS0.out _ (hWd.trans (Rw.of_below hA3 (by omega)))⟩
      clear hK K hS1
      try simp only [Act.put, List.setIfInBounds_toArray, List.set_cons_zero, List.set_cons_succ]
      refine readyL (rs := [8]) (by kernel_rfl) (by simp) ?_
      refine AllReadyL.cons rfl (fun K hK => ?_) AllReadyL.nil
      refine step_append_lies _ (by rfl) _ _ _ (by rfl) wp.heap.size 35 i0 _ 9 128 Tryd.underElemsM hi0 hz0 hz1 hz2 rfl (by omega) (.slice av j capv) j xs (by rfl) (ho2.alloc _) ⟨w3.heap.size, 0, none⟩ 1 1 [.int .i64 r0, .string r1, .int .i64 r2, .int .i64 r3, .slice r5 r4 r6, .int .i64 r7, .slice r9 r8 r10, .int .i64 r11, .slice r13 r12 r14] (by rfl) (by rfl) (World.news_of_block (cs := Array.mk [.int .i64 r0, .string r1, .int .i64 r2, .int .i64 r3, .slice r5 r4 r6, .int .i64 r7, .slice r9 r8 r10, .int .i64 r11, .slice r13 r12 r14]) (t := 35) (fr := (0, 0)) (heap_alloc_new w3 _)) (by simp [Value.oneCell']) (by omega) hmx hby (by simp; omega) (w3.heap.size + 1) (by simp) ?_
      intro g cp w4 hown3 hgrow hat3 hlt3
      have hO3 := grow_keep hgrow ((Below.heap_alloc _ _ _ hM1').trans hO1) (own_ne9 ho2 (by omega))
      have z1 := (cell_of_block (o := 8) hO3)
      have z2 := (frozen_of_block (o := 8) hO3)
      refine hK.out _ _ ?_ (fun hS3 => ?_)
      · exact ⟨trivial, fun h => absurd (h.symm.trans (show _ = true by kernel_rfl)) (by decide)⟩
      clear hK K hS2
      try simp only [Act.put, List.setIfInBounds_toArray, List.set_cons_zero, List.set_cons_succ]
      refine takeL (i := 9) (v := ?vc_7) rfl (by kernel_rfl) (by kernel_rfl) (by kernel_rfl) (by decide) (fun _ _ _ h => h) (Or.inl ⟨by rfl, ?hyc_7⟩) (by assumption) ?_
      case hyc_7 => (intro w hSw; (try dsimp only at hSw); go_simp; (try with_reducible rfl))
      try simp only [Act.put, List.setIfInBounds_toArray, List.set_cons_zero, List.set_cons_succ]
      refine readyL (rs := [10]) (by kernel_rfl) (by simp) ?_
      refine AllReadyL.cons rfl (fun K hK => ?_) AllReadyL.nil
      go_simp
      refine hK.out _ _ ?_ (fun hS4 => ?_)
      · exact ⟨trivial, fun h => absurd (h.symm.trans (show _ = true by kernel_rfl)) (by decide)⟩
      clear hK K hS3
      try simp only [Act.put, List.setIfInBounds_toArray, List.set_cons_zero, List.set_cons_succ]
      refine doneL (by kernel_rfl) ?_ _
      have hw3 : Below w2.heap.size w3 w4 := ((Below.refl _ _).alloc (by omega) _).grown hgrow (by simp; omega) (fun b hb => by have := (ho2.lt b hb).1; omega)
      have HXN := hid (dm_step (P := wp) HX.out hWd hgrow (fun b hb => (ho2.lt b hb).1) hsp (by have := hW3.size; simpa using this))
      have HRN := hid (fun (o : Nat) (u : Value) => hR3.below1 ((hw3.setCell (p := ⟨w2.heap.size, o, none⟩) (Nat.le_refl _) u).mono (by omega)))
      have HWN := hid (fun (o : Nat) (u : Value) => (hW.trans hWd).tail (hw3.setCell (p := ⟨w2.heap.size, o, none⟩) (Nat.le_refl _) u) hM2)
      have hG3 := GrowM.step (w := wr') ha1 hf1 hn1 hG.block.1 hG.block.2 hsp (by rfl) hau hfu ((Below.refl _ _).alloc (Nat.le_refl _) _) hgrow hown3 (by rw [HLEN.out]) (by simpa using hat3)
      have HO3 := hid hO3
      have HSZ4 := hid (show wp.heap.size ≤ w4.heap.size from Nat.le_trans hsp (Nat.le_trans hWd.size (Nat.le_trans hA3.size hgrow.size)))
      have HG3 := hid (hG3.setCell (p := ⟨w2.heap.size, 8, none⟩) (by simpa using hE2p) (.slice (some ⟨g, 0, none⟩) (j + 1) cp))
      have HSU := hid hsu
      clear hO1 hO ha1 hf1 hn1 hau hfu hgrow hown3 hat3 hlt3 ho1 ho2 hWd hw3 hG z1 z2 y0 y8 hR hR3 hW hW3 hRd hG3 hO3 hA3 HY
      go_wp2_with fail
      refine ⟨⟨j + 1, _, _, ds ++ [u], by omega, by go_num, by simp [HLEN.out], hid (fun t ht => ?_), by rw [← HQ.out]; exact HRN.out _ _, HWN.out _ _, ?_, HG3.out, by rw [size_setCell]; exact HSZ4.out, hid (fun b h1 h2 h3 => (Below.heap_setCell _ _ _ _ (by show b ≠ w2.heap.size; exact h2)).trans (HXN.out b h1 h2 h3))⟩, by simp [intOf]; omega⟩
      · rcases List.mem_append.1 ht with ht | ht
        · exact HALL.out t ht
        · rw [List.mem_singleton.1 ht]; exact HSU.out
      · rw [heap_setCell_at HO3.out]
        rfl
    · obtain rfl : j = nk := by omega
      have hlk' : ¬ ((j : Int) < (j : Int)) := by omega
      obtain ⟨av, capv, rfl⟩ := hG.shape
      obtain ⟨y0, y1, y2, y3, y4, y5, y6, y7⟩ := HY.out
      have hEw := hW.block HER.out (by omega)
      have r0 := cell_of_block (o := 0) hEw
      have r1 := cell_of_block (o := 1) hEw
      have r2 := cell_of_block (o := 2) hEw
      have r3 := cell_of_block (o := 3) hEw
      have r4 := cell_of_block (o := 4) hEw
      have r5 := cell_of_block (o := 5) hEw
      have r6 := cell_of_block (o := 6) hEw
      have r7 := cell_of_block (o := 7) hEw
      have r8 := cell_of_block (o := 8) hEw
      have rz := fun o => frozen_of_block (o := o) hEw
      have hnms : (⟨#[]⟩ : ByteArray).size ≤ 1 := by first | decide | exact Nat.le_refl _
      have FIN := hid ((dm_done (S := P) (R := w.heap.size) (k := k) (nm := ⟨#[]⟩) HTA.out.1 HTA.out.2 (by unfold maxLen; omega) HTC.out hnms hG (by omega) HALL.out HX.out (HW2.out.trans hW) (by omega) (by omega) hMw hsp (hR.mono (q' := q + Q) (by
        have : j * P ≤ 3 * P := Nat.mul_le_mul_right _ (by omega)
        omega)) hM2p hEpl).up (S' := Q) (Nat.le_refl _) (by omega))
      clear hG hO hR hW hEw HALL HX hdl
      go_wp2_with fail
      exact bodyPost_ret (v := .agg #[.int .i64 k, .string ⟨#[]⟩, .int .i64 0, .int .i64 0, .slice none 0 0, .int .i64 0, .slice none 0 0, .int .i64 0, .slice av ds.length capv]) (by simp [results, Tryd.results165, go_sem, r0, r1, r2, r3, r4, r5, r6, r7, r8]) rfl FIN.out

theorem l2Draw_any : ∀ d : Nat, d ≤ 5 → DmC d
  | 0, _ => l2Draw_small 0 (by omega)
  | 1, _ => l2Draw_small 1 (by omega)
  | d + 2, h => fun M q s w hR hq hs => by
    have h4 := pow4 (d + 1)
    have hp4 : 4 ^ (d + 2) = 4 * 4 ^ (d + 1) := by rw [Nat.pow_succ]; omega
    exact l2Draw_of (d + 1) (by omega) (by omega) (40 * 4 ^ (d + 1)) (40 * 4 ^ (d + 2)) (by omega) (by omega) (fun M q s w h1 h2 h3 => l2Draw_any (d + 1) (by omega) M q s w h1 h2 h3) M q s w hR hq hs
end Go.Proofs.YtffmpjcjmffdeaaDoor

/- Draws of terms: what a draw says; numbers and atoms (l2Num, l2Atom). -/
import Derived.Test.YtffmpjcjmffdeaaDoorVG23
import Derived.Test.YtffmpjcjmffdeaaDoorVG18
import Derived.Test.YtffmpjcjmffdeaaDoorVPkB
import Derived.Test.YtffmpjcjmffdeaaDoorVPkD
namespace Go.Proofs.YtffmpjcjmffdeaaDoor
open Go.RowKit

/-- What a draw of a term says: a term of the call's own, of a size. -/
def DrawM (M q S : Nat) (w : World) (e : Ending) (w' : World) : Prop := ∃ (t : Tm) (v : Value) (fp : List Nat), e = .returned v ∧ t.sz ≤ S ∧ t.At w' v fp ∧ Fresh w.heap.size w' fp ∧ RdAt M q w' ∧ Rw M w w'

theorem leaf_at (w : World) (k : Int) (nm : ByteArray) (num : Int) (hn : nm.size ≤ maxLen) : (Tm.mk k nm num (.mk 0 []) (.mk 0 []) 0 []).At w (.agg #[.int .i64 k, .string nm, .int .i64 num, .int .i64 0, .slice none 0 0, .int .i64 0, .slice none 0 0, .int .i64 0, .slice none 0 0]) [] :=
  Tm.at_mk.2 ⟨_, _, _, _, _, [], [], [], rfl, hn, Ty.at_mk.2 ⟨_, rfl, .inl ⟨rfl, rfl, _, _, rfl⟩⟩, Ty.at_mk.2 ⟨_, rfl, .inl ⟨rfl, rfl, _, _, rfl⟩⟩, rfl, .inl ⟨rfl, rfl, _, _, rfl⟩⟩

theorem leaf_sz (k : Int) (nm : ByteArray) (num : Int) : (Tm.mk k nm num (.mk 0 []) (.mk 0 []) 0 []).sz = nm.size := by simp [Tm.sz, szML, Ty.cnt, cntL]

theorem GrowM.rw {M B : Nat} {ds : List Tm} {v : Value} {fp : List Nat} {w w' : World} (h : GrowM B ds v fp w) (hM : M < B) (hr : Rw M w w') : GrowM B ds v fp w' := by
  obtain ⟨xs, ho, ha, hf, hn⟩ := h
  refine ⟨xs, ho.kept hr.grown ?_, ha.congr (fun b hm o => World.cell?_of_block (w := w) (a := ⟨b, o, none⟩) (hr.above b (by have := (hf.2 b hm).1; omega) (hf.2 b hm).2.1)), hr.fresh hf hM, hn⟩
  cases hv : v.ownBlock with
  | none => exact .inl rfl
  | some b =>
    right
    intro e
    have := (ho.lt b hv).1
    have := Option.some.inj e
    omega

/-- A drawn term put into the result's cells. -/
theorem dm_close {w w2 : World} {M q R lo S : Nat} {t : Tm} {vs : List Value} {fp : List Nat} (hs : t.sz ≤ S) (hat : t.At w2 (.agg vs.toArray) fp) (hf : Fresh lo w2 fp) (hR : RdAt M q w2) (hW : Rw M w w2) (hMw : M < w.heap.size) (hRb : w.heap.size ≤ R) (hlo : R < lo) :
    DrawM M q S w (.returned (.agg vs.toArray)) (put w2 R 0 vs) := by
  have hab : Above lo w2 (put w2 R 0 vs) := (Above.refl lo w2).put hlo
  have hbb : Below w.heap.size w2 (put w2 R 0 vs) := below_put (Below.refl _ _) hRb
  exact ⟨t, _, fp, rfl, hs, hat.above hab hf.ge, (hf.above hab (Nat.le_refl _)).mono (by omega), hR.below1 (hbb.mono (by omega)), hW.tail hbb hMw⟩

theorem leaf_close {w w2 : World} {M q R S : Nat} (k : Int) (nm : ByteArray) (num : Int) (hn : nm.size ≤ maxLen) (hs : nm.size ≤ S) (hR : RdAt M q w2) (hW : Rw M w w2) (hMw : M < w.heap.size) (hRb : w.heap.size ≤ R) :
    DrawM M q S w (.returned (.agg #[.int .i64 k, .string nm, .int .i64 num, .int .i64 0, .slice none 0 0, .int .i64 0, .slice none 0 0, .int .i64 0, .slice none 0 0])) (put w2 R 0 (#[.int .i64 k, .string nm, .int .i64 num, .int .i64 0, .slice none 0 0, .int .i64 0, .slice none 0 0, .int .i64 0, .slice none 0 0]).toList) :=
  dm_close (lo := R + 1) (by rw [leaf_sz]; exact hs) (leaf_at w2 k nm num hn) (Fresh.nil _ _) hR hW hMw hRb (Nat.lt_succ_self _)

set_option maxHeartbeats 1000000 in
theorem l2Num_any (n : Int) (w : World) : Calls Tryd.prog 166 #[.int .i64 n] w fun e w' => e = .returned (.agg #[.int .i64 2, .string ⟨#[]⟩, .int .i64 n, .int .i64 0, .slice none 0 0, .int .i64 0, .slice none 0 0, .int .i64 0, .slice none 0 0]) ∧ Below w.heap.size w w' := by
  go_enter Tryd.func166, Tryd.ntmps166
  go_wp2_with fail
  exact bodyPost_ret (v := .agg #[.int .i64 2, .string ⟨#[]⟩, .int .i64 n, .int .i64 0, .slice none 0 0, .int .i64 0, .slice none 0 0, .int .i64 0, .slice none 0 0]) (by simp [results, Tryd.results166, go_sem]) rfl ⟨rfl, (Below.refl _ _).alloc (Nat.le_refl _) _⟩

set_option maxRecDepth 100000 in
set_option maxHeartbeats 4000000 in
theorem l2Atom_any (M q : Nat) (s : ByteArray) (w : World) (hR0 : RdAt M q w) (hq : q + 10 ≤ 1000000) (hs : s.size ≤ 100) :
    Calls Tryd.prog 182 #[.pointer (some ⟨M, 0, none⟩), .string s] w (DrawM M (q + 4) 1 w) := by
  have hMw := hR0.lt
  have hb0 : Below w.heap.size w (w.alloc (Obj.cells #[.int .i64 0, .string ⟨#[]⟩, .int .i64 0, .int .i64 0, .slice none 0 0, .int .i64 0, .slice none 0 0, .int .i64 0, .slice none 0 0] 35)) := (Below.refl _ _).alloc (Nat.le_refl _) _
  have HR0 := hid (hR0.rw hb0)
  have HW0 := hid (Rw.of_below hb0 hMw)
  have HE0 := hid (alloc_new w (Obj.cells #[.int .i64 0, .string ⟨#[]⟩, .int .i64 0, .int .i64 0, .slice none 0 0, .int .i64 0, .slice none 0 0, .int .i64 0, .slice none 0 0] 35))
  clear hR0 hb0
  by_cases h0 : s.size = 0
  · have e0 : ¬ ((s.size : Int) > 0) := by omega
    clear h0
    go_enter Tryd.func182, Tryd.ntmps182
    go_wp2_with fail
    have HP5 := hid (pick_any M (q) 5 (w.alloc (Obj.cells #[.int .i64 0, .string ⟨#[]⟩, .int .i64 0, .int .i64 0, .slice none 0 0, .int .i64 0, .slice none 0 0, .int .i64 0, .slice none 0 0] 35)) HR0.out (by omega) (by omega) (by omega))
    go_wp2_with fail
    refine HP5.out.mono ?_
    rintro e w5 ⟨i5, rfl, ⟨hi5, hj5⟩, hR5, hW5⟩
    have hE5 := hW5.block HE0.out (by omega)
    have hWa := HW0.out.trans hW5
    have hs5 := lt_of_block hE5
    have hMw5 := hR5.lt
    by_cases h50 : i5 = 0
    · subst h50
      have FIN := hid (leaf_close (R := w.heap.size) (S := 1) 3 ⟨#[]⟩ 0 (by decide) (by decide) (hR5.mono (q' := q + 4) (by omega)) hWa hMw (Nat.le_refl _))
      have r0 := cell_of_block (o := 0) hE5
      have r1 := cell_of_block (o := 1) hE5
      have r2 := cell_of_block (o := 2) hE5
      have r3 := cell_of_block (o := 3) hE5
      have r4 := cell_of_block (o := 4) hE5
      have r5 := cell_of_block (o := 5) hE5
      have r6 := cell_of_block (o := 6) hE5
      have r7 := cell_of_block (o := 7) hE5
      have r8 := cell_of_block (o := 8) hE5
      have rz := fun o => frozen_of_block (o := o) hE5
      clear hR5 hW5 hE5 hWa
      go_wp2_with fail
      exact bodyPost_ret (v := .agg #[.int .i64 3, .string ⟨#[]⟩, .int .i64 0, .int .i64 0, .slice none 0 0, .int .i64 0, .slice none 0 0, .int .i64 0, .slice none 0 0]) (by simp [results, Tryd.results182, go_sem, r0, r1, r2, r3, r4, r5, r6, r7, r8]) rfl FIN.out
    by_cases h51 : i5 = 1
    · subst h51
      have FIN := hid (leaf_close (R := w.heap.size) (S := 1) 4 ⟨#[]⟩ 0 (by decide) (by decide) (hR5.mono (q' := q + 4) (by omega)) hWa hMw (Nat.le_refl _))
      have r0 := cell_of_block (o := 0) hE5
      have r1 := cell_of_block (o := 1) hE5
      have r2 := cell_of_block (o := 2) hE5
      have r3 := cell_of_block (o := 3) hE5
      have r4 := cell_of_block (o := 4) hE5
      have r5 := cell_of_block (o := 5) hE5
      have r6 := cell_of_block (o := 6) hE5
      have r7 := cell_of_block (o := 7) hE5
      have r8 := cell_of_block (o := 8) hE5
      have rz := fun o => frozen_of_block (o := o) hE5
      clear hR5 hW5 hE5 hWa
      go_wp2_with fail
      exact bodyPost_ret (v := .agg #[.int .i64 4, .string ⟨#[]⟩, .int .i64 0, .int .i64 0, .slice none 0 0, .int .i64 0, .slice none 0 0, .int .i64 0, .slice none 0 0]) (by simp [results, Tryd.results182, go_sem, r0, r1, r2, r3, r4, r5, r6, r7, r8]) rfl FIN.out
    have e50 : (i5 == 0) = false := by rw [beq_eq_false_iff_ne]; exact h50
    have e51 : (i5 == 1) = false := by rw [beq_eq_false_iff_ne]; exact h51
    have hal : Below w5.heap.size w5 (w5.alloc (Obj.cells #[.int .i64 1, .int .i64 0, .int .i64 2, .int .i64 5, .int .i64 999, .int .i64 7] 3)) := (Below.refl _ _).alloc (Nat.le_refl _) _
    have hER := alloc_new w5 (Obj.cells #[.int .i64 1, .int .i64 0, .int .i64 2, .int .i64 5, .int .i64 999, .int .i64 7] 3)
    have HN := hid (num_any M (q + 1) w5.heap.size [1, 0, 2, 5, 999, 7] _ (hR5.rw hal) (by omega) (by omega) (fun j hj => by
      rw [cell_of_block hER]
      have : j = 0 ∨ j = 1 ∨ j = 2 ∨ j = 3 ∨ j = 4 ∨ j = 5 := by simp at hj; omega
      rcases this with rfl | rfl | rfl | rfl | rfl | rfl <;> rfl) (by simp) (by simp))
    have hWb := hWa.trans (Rw.of_below hal hMw5)
    have HEb := hid ((hal.block _ hs5).trans hE5)
    have HWb := hid hWb
    clear hR5 hW5 hE5 hWa hal hER hWb h50 h51
    go_wp2_with fail
    refine HN.out.mono ?_
    rintro e w6 ⟨n6, rfl, -, hR6, hW6⟩
    have HR6 := hid hR6
    have HW6 := hid (HWb.out.trans hW6)
    have HE6 := hid (hW6.block HEb.out (by omega))
    clear hR6 hW6
    go_wp2_with fail
    refine (l2Num_any n6 _).mono ?_
    rintro e w7 ⟨rfl, hb7⟩
    have hE7 := (hb7.block _ (lt_of_block HE6.out)).trans HE6.out
    have FIN := hid (leaf_close (R := w.heap.size) (S := 1) 2 ⟨#[]⟩ n6 (by decide) (by decide) ((HR6.out.rw hb7).mono (q' := q + 4) (by omega)) (HW6.out.trans (Rw.of_below hb7 HR6.out.lt)) hMw (Nat.le_refl _))
    have r0 := cell_of_block (o := 0) hE7
    have r1 := cell_of_block (o := 1) hE7
    have r2 := cell_of_block (o := 2) hE7
    have r3 := cell_of_block (o := 3) hE7
    have r4 := cell_of_block (o := 4) hE7
    have r5 := cell_of_block (o := 5) hE7
    have r6 := cell_of_block (o := 6) hE7
    have r7 := cell_of_block (o := 7) hE7
    have r8 := cell_of_block (o := 8) hE7
    have rz := fun o => frozen_of_block (o := o) hE7
    clear hb7 hE7
    go_wp2_with fail
    exact bodyPost_ret (v := .agg #[.int .i64 2, .string ⟨#[]⟩, .int .i64 n6, .int .i64 0, .slice none 0 0, .int .i64 0, .slice none 0 0, .int .i64 0, .slice none 0 0]) (by simp [results, Tryd.results182, go_sem, r0, r1, r2, r3, r4, r5, r6, r7, r8]) rfl FIN.out
  have e0 : (s.size : Int) > 0 := by omega
  have HP := hid (pick_any M q 4 _ HR0.out (by omega) (by omega) (by omega))
  go_enter Tryd.func182, Tryd.ntmps182
  go_wp2_with fail
  refine HP.out.mono ?_
  rintro e w1 ⟨i, rfl, ⟨hi0, hi4⟩, hR1, hW1⟩
  have HR1 := hid hR1
  have HW1 := hid (HW0.out.trans hW1)
  have HE1 := hid (hW1.block HE0.out (by omega))
  clear hR1 hW1
  by_cases hi : i > 0
  · have HK := hid (pick_any M (q + 1) s.size w1 HR1.out (by omega) (by omega) (by omega))
    go_wp2_with fail
    refine HK.out.mono ?_
    rintro e w2 ⟨k0, rfl, ⟨hk0, hk1⟩, hR2, hW2⟩
    obtain ⟨k, rfl⟩ : ∃ k : Nat, k0 = k := ⟨k0.toNat, by omega⟩
    have hk : k < s.size := by omega
    have hE2 := hW2.block HE1.out (by omega)
    have hx : (s.extract k (k + 1)).size ≤ 1 := by rw [ByteArray.size_extract]; omega
    have FIN := hid (leaf_close (R := w.heap.size) (S := 1) 1 (s.extract k (k + 1)) 0 (by unfold maxLen; omega) hx (hR2.mono (q' := q + 4) (by omega)) (HW1.out.trans hW2) hMw (Nat.le_refl _))
    have r0 := cell_of_block (o := 0) hE2
    have r1 := cell_of_block (o := 1) hE2
    have r2 := cell_of_block (o := 2) hE2
    have r3 := cell_of_block (o := 3) hE2
    have r4 := cell_of_block (o := 4) hE2
    have r5 := cell_of_block (o := 5) hE2
    have r6 := cell_of_block (o := 6) hE2
    have r7 := cell_of_block (o := 7) hE2
    have r8 := cell_of_block (o := 8) hE2
    have rz := fun o => frozen_of_block (o := o) hE2
    clear hR2 hW2 hE2
    go_wp2_with fail
    rw [fr_slice _ _ _ hk]
    go_wp2_with fail
    exact bodyPost_ret (v := .agg #[.int .i64 1, .string (s.extract k (k + 1)), .int .i64 0, .int .i64 0, .slice none 0 0, .int .i64 0, .slice none 0 0, .int .i64 0, .slice none 0 0]) (by simp [results, Tryd.results182, go_sem, r0, r1, r2, r3, r4, r5, r6, r7, r8]) rfl FIN.out
  have e1 : ¬ (i > 0) := hi
  have HP5 := hid (pick_any M ((q + 1)) 5 w1 HR1.out (by omega) (by omega) (by omega))
  go_wp2_with fail
  refine HP5.out.mono ?_
  rintro e w5 ⟨i5, rfl, ⟨hi5, hj5⟩, hR5, hW5⟩
  have hE5 := hW5.block HE1.out (by omega)
  have hWa := HW1.out.trans hW5
  have hs5 := lt_of_block hE5
  have hMw5 := hR5.lt
  by_cases h50 : i5 = 0
  · subst h50
    have FIN := hid (leaf_close (R := w.heap.size) (S := 1) 3 ⟨#[]⟩ 0 (by decide) (by decide) (hR5.mono (q' := q + 4) (by omega)) hWa hMw (Nat.le_refl _))
    have r0 := cell_of_block (o := 0) hE5
    have r1 := cell_of_block (o := 1) hE5
    have r2 := cell_of_block (o := 2) hE5
    have r3 := cell_of_block (o := 3) hE5
    have r4 := cell_of_block (o := 4) hE5
    have r5 := cell_of_block (o := 5) hE5
    have r6 := cell_of_block (o := 6) hE5
    have r7 := cell_of_block (o := 7) hE5
    have r8 := cell_of_block (o := 8) hE5
    have rz := fun o => frozen_of_block (o := o) hE5
    clear hR5 hW5 hE5 hWa
    go_wp2_with fail
    exact bodyPost_ret (v := .agg #[.int .i64 3, .string ⟨#[]⟩, .int .i64 0, .int .i64 0, .slice none 0 0, .int .i64 0, .slice none 0 0, .int .i64 0, .slice none 0 0]) (by simp [results, Tryd.results182, go_sem, r0, r1, r2, r3, r4, r5, r6, r7, r8]) rfl FIN.out
  by_cases h51 : i5 = 1
  · subst h51
    have FIN := hid (leaf_close (R := w.heap.size) (S := 1) 4 ⟨#[]⟩ 0 (by decide) (by decide) (hR5.mono (q' := q + 4) (by omega)) hWa hMw (Nat.le_refl _))
    have r0 := cell_of_block (o := 0) hE5
    have r1 := cell_of_block (o := 1) hE5
    have r2 := cell_of_block (o := 2) hE5
    have r3 := cell_of_block (o := 3) hE5
    have r4 := cell_of_block (o := 4) hE5
    have r5 := cell_of_block (o := 5) hE5
    have r6 := cell_of_block (o := 6) hE5
    have r7 := cell_of_block (o := 7) hE5
    have r8 := cell_of_block (o := 8) hE5
    have rz := fun o => frozen_of_block (o := o) hE5
    clear hR5 hW5 hE5 hWa
    go_wp2_with fail
    exact bodyPost_ret (v := .agg #[.int .i64 4, .string ⟨#[]⟩, .int .i64 0, .int .i64 0, .slice none 0 0, .int .i64 0, .slice none 0 0, .int .i64 0, .slice none 0 0]) (by simp [results, Tryd.results182, go_sem, r0, r1, r2, r3, r4, r5, r6, r7, r8]) rfl FIN.out
  have e50 : (i5 == 0) = false := by rw [beq_eq_false_iff_ne]; exact h50
  have e51 : (i5 == 1) = false := by rw [beq_eq_false_iff_ne]; exact h51
  have hal : Below w5.heap.size w5 (w5.alloc (Obj.cells #[.int .i64 1, .int .i64 0, .int .i64 2, .int .i64 5, .int .i64 999, .int .i64 7] 3)) := (Below.refl _ _).alloc (Nat.le_refl _) _
  have hER := alloc_new w5 (Obj.cells #[.int .i64 1, .int .i64 0, .int .i64 2, .int .i64 5, .int .i64 999, .int .i64 7] 3)
  have HN := hid (num_any M ((q + 1) + 1) w5.heap.size [1, 0, 2, 5, 999, 7] _ (hR5.rw hal) (by omega) (by omega) (fun j hj => by
    rw [cell_of_block hER]
    have : j = 0 ∨ j = 1 ∨ j = 2 ∨ j = 3 ∨ j = 4 ∨ j = 5 := by simp at hj; omega
    rcases this with rfl | rfl | rfl | rfl | rfl | rfl <;> rfl) (by simp) (by simp))
  have hWb := hWa.trans (Rw.of_below hal hMw5)
  have HEb := hid ((hal.block _ hs5).trans hE5)
  have HWb := hid hWb
  clear hR5 hW5 hE5 hWa hal hER hWb h50 h51
  go_wp2_with fail
  refine HN.out.mono ?_
  rintro e w6 ⟨n6, rfl, -, hR6, hW6⟩
  have HR6 := hid hR6
  have HW6 := hid (HWb.out.trans hW6)
  have HE6 := hid (hW6.block HEb.out (by omega))
  clear hR6 hW6
  go_wp2_with fail
  refine (l2Num_any n6 _).mono ?_
  rintro e w7 ⟨rfl, hb7⟩
  have hE7 := (hb7.block _ (lt_of_block HE6.out)).trans HE6.out
  have FIN := hid (leaf_close (R := w.heap.size) (S := 1) 2 ⟨#[]⟩ n6 (by decide) (by decide) ((HR6.out.rw hb7).mono (q' := q + 4) (by omega)) (HW6.out.trans (Rw.of_below hb7 HR6.out.lt)) hMw (Nat.le_refl _))
  have r0 := cell_of_block (o := 0) hE7
  have r1 := cell_of_block (o := 1) hE7
  have r2 := cell_of_block (o := 2) hE7
  have r3 := cell_of_block (o := 3) hE7
  have r4 := cell_of_block (o := 4) hE7
  have r5 := cell_of_block (o := 5) hE7
  have r6 := cell_of_block (o := 6) hE7
  have r7 := cell_of_block (o := 7) hE7
  have r8 := cell_of_block (o := 8) hE7
  have rz := fun o => frozen_of_block (o := o) hE7
  clear hb7 hE7
  go_wp2_with fail
  exact bodyPost_ret (v := .agg #[.int .i64 2, .string ⟨#[]⟩, .int .i64 n6, .int .i64 0, .slice none 0 0, .int .i64 0, .slice none 0 0, .int .i64 0, .slice none 0 0]) (by simp [results, Tryd.results182, go_sem, r0, r1, r2, r3, r4, r5, r6, r7, r8]) rfl FIN.out
end Go.Proofs.YtffmpjcjmffdeaaDoor

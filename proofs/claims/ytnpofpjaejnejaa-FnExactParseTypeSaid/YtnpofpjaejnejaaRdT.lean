/- The program's readType and readOperands. -/
import Derived.Test.YtnpofpjaejnejaaPrs
import Derived.Test.YtnpofpjaejnejaaTwoIn
namespace Go.Proofs.Ytnpofpjaejnejaa
open Go.RowKit

/-- What reading says: nothing was read, or a tree in new memory. -/
def Rd (b : Nat) (s : ByteArray) (r : Option (Ty × Nat)) (w : World) (e : Ending) (w' : World) : Prop :=
  (r = none ∧ e = .returned (.tuple #[.agg #[.int .i64 0, .slice none 0 0], .bool false]) ∧ (∃ j, CurAt b s j w') ∧ Cx b w w') ∨
  ∃ t j k n a c fp, r = some (t, j) ∧ e = .returned (.tuple #[.agg #[.int .i64 k, .slice a n c], .bool true]) ∧ t.At w' (.agg #[.int .i64 k, .slice a n c]) fp ∧ Fresh w.heap.size w' fp ∧ CurAt b s j w' ∧ Cx b w w'

def RtC (d : Nat) : Prop := ∀ (n : Int) (b : Nat) (s : ByteArray) (i : Nat) (w : World), n ≤ 100 → n.toNat = d → CurAt b s i w →
  Calls Try.prog 34 #[.pointer (some ⟨b, 0, none⟩), .int .i64 n] w (Rd b s (prs s d i) w)

def RoC (d : Nat) : Prop := ∀ (n : Int) (b : Nat) (s : ByteArray) (i : Nat) (w : World), n ≤ 100 → n.toNat = d → CurAt b s i w →
  Calls Try.prog 54 #[.pointer (some ⟨b, 0, none⟩), .int .i64 n] w (Rd b s (oprW s (prs s d) i) w)

/-- The result's cells stand while a cursor moves on. -/
theorem res_box {w wr : World} {b : Nat} (h : Cx b (w.alloc (Obj.cells #[.int .i64 0, .slice none 0 0] 29)) wr) (hb : b < w.heap.size) :
    wr.cell? ⟨w.heap.size, 0, none⟩ = some (.int .i64 0) ∧ wr.cell? ⟨w.heap.size, 1, none⟩ = some (.slice none 0 0) ∧ (∀ o, wr.frozen? ⟨w.heap.size, o, none⟩ = false) ∧ w.heap.size < wr.heap.size := by
  have hk := h.blk (alloc_new w _) (by omega)
  exact ⟨by rw [cell_of_block hk]; rfl, by rw [cell_of_block hk]; rfl, fun o => frozen_of_block hk, lt_of_block hk⟩

/-- The end of a call that has laid its answer into the result's cells. -/
theorem rd_none {b : Nat} {s : ByteArray} {j : Nat} {w wr : World} (h : Cx b (w.alloc (Obj.cells #[.int .i64 0, .slice none 0 0] 29)) wr) (hb : b < w.heap.size) (hc : CurAt b s j wr) (x y : Value) :
    (∃ j, CurAt b s j ((wr.setCell ⟨w.heap.size, 0, none⟩ x).setCell ⟨w.heap.size, 1, none⟩ y)) ∧ Cx b w ((wr.setCell ⟨w.heap.size, 0, none⟩ x).setCell ⟨w.heap.size, 1, none⟩ y) :=
  ⟨⟨j, (hc.setNew (by simp; omega) x).setNew (by simp; omega) y⟩, ((((Cx.refl b w).alloc _).trans h).setNew (by simp) x).setNew (by simp) y⟩

set_option maxHeartbeats 400000 in
theorem readType_zero : RtC 0 := by
  intro n b s i w hn0 hn hc
  have hn2 : decide (n < 1) = true := by simp; omega
  have hn1 : n < 1 := by omega
  have H := hid (hc.below ((Below.refl _ _).alloc (Nat.le_refl _) (Obj.cells #[.int .i64 0, .slice none 0 0] 29)))
  have HF := hid ((Cx.refl b w).alloc (Obj.cells #[.int .i64 0, .slice none 0 0] 29))
  clear hn hc
  go_enter Try.func34, Try.ntmps34
  go_wp2_with fail
  exact bodyPost_ret (v := .tuple #[.agg #[.int .i64 0, .slice none 0 0], .bool false]) (by simp [results, Try.results34, go_sem]) rfl (.inl ⟨by simp only [prs], rfl, ⟨i, H.out⟩, HF.out⟩)

set_option maxHeartbeats 1000000 in
theorem readType_succ (d : Nat) (ih : RoC d) : RtC (d + 1) := by
  intro n b s i w hn0 hn hc
  have HIH := hid ih
  clear ih
  have hn1 : 1 ≤ n := by omega
  have hn2 : decide (n < 1) = false := by simp; omega
  have HN := hid hn
  have hb := hc.lt
  have H := hid (hc.below ((Below.refl _ _).alloc (Nat.le_refl _) (Obj.cells #[.int .i64 0, .slice none 0 0] 29)))
  have HB := hid (byt_lt s i)
  clear hn hc
  by_cases hp : byt s i = 40
  · have HP := hid (show prs s (d + 1) i = oprW s (prs s d) (i + 1) by simp only [prs, if_pos hp])
    have HX := hid (nxt_in (s := s) (i := i) (by omega))
    have HPP := hid hp
    clear hp
    go_enter Try.func34, Try.ntmps34
    go_wp2_with fail
    refine (next_any b s i _ H.out).mono ?_
    rintro e w1 ⟨he, hc1, hx1⟩
    rw [HPP.out] at he
    rw [HX.out] at hc1
    subst he
    have HC1 := hid hc1
    have HX1 := hid hx1
    clear hc1 hx1
    go_wp2_with fail
    refine (HIH.out (n - 1) b s (i + 1) _ (by omega) (by have := HN.out; omega) HC1.out).mono ?_
    rintro e w2 (⟨hr, rfl, ⟨j, hc2⟩, hx2⟩ | ⟨t, j, k, m, a, c, fp, hr, rfl, hat, hf, hc2, hx2⟩)
    · have hxx := HX1.out.trans hx2
      obtain ⟨r0, r1, rz, hM⟩ := res_box hxx hb
      have HF := hid (rd_none hxx hb hc2 (.int .i64 0) (.slice none 0 0))
      have HR := hid (HP.out.trans hr)
      clear hr hc2 hx2 hxx
      go_wp2_with fail
      exact bodyPost_ret (v := .tuple #[.agg #[.int .i64 0, .slice none 0 0], .bool false]) (by simp [results, Try.results34, go_sem, r0, r1]) rfl (.inl ⟨HR.out, rfl, HF.out.1, HF.out.2⟩)
    · have hxx := HX1.out.trans hx2
      obtain ⟨r0, r1, rz, hM⟩ := res_box hxx hb
      have HF := hid (And.intro ((hc2.setNew (p := ⟨w.heap.size, 0, none⟩) (by simp; omega) (.int .i64 k)).setNew (p := ⟨w.heap.size, 1, none⟩) (by simp; omega) (.slice a m c)) (rd_none hxx hb hc2 (.int .i64 k) (.slice a m c)).2)
      have hne : ∀ x ∈ fp, x ≠ w.heap.size := fun x hx e => by have h1 := (hf.2 x hx).1; have h2 := HX1.out.size; simp at h2; omega
      have HT := hid ((hat.setCell (a := ⟨w.heap.size, 0, none⟩) hne (.int .i64 k)).setCell (a := ⟨w.heap.size, 1, none⟩) hne (.slice a m c))
      have HFR := hid (((hf.mono (B' := w.heap.size) (by have h2 := HX1.out.size; simp at h2; omega)).setCell (a := ⟨w.heap.size, 0, none⟩) hne (.int .i64 k)).setCell (a := ⟨w.heap.size, 1, none⟩) hne (.slice a m c))
      have HR := hid (HP.out.trans hr)
      clear hr hc2 hx2 hxx hat hf hne
      go_wp2_with fail
      exact bodyPost_ret (v := .tuple #[.agg #[.int .i64 k, .slice a m c], .bool true]) (by simp [results, Try.results34, go_sem, r0, r1]) rfl (.inr ⟨t, j, k, m, a, c, fp, HR.out, rfl, HT.out, HFR.out, HF.out.1, HF.out.2⟩)
  · have hq1 : ((byt s i : Int) == 40) = false := by simp; omega
    by_cases hk : byt s i = 63 ∨ byt s i = 73 ∨ byt s i = 66
    · have HP := hid (show prs s (d + 1) i = some (.mk (kos (byt s i)) [], i + 1) by simp only [prs, if_neg hp, if_pos hk])
      have HX := hid (nxt_in (s := s) (i := i) (by omega))
      have HK := hid ((kos_zero (byt s i)).2 hk)
      clear hp hk
      go_enter Try.func34, Try.ntmps34
      go_wp2_with fail
      refine (next_any b s i _ H.out).mono ?_
      rintro e w1 ⟨rfl, hc1, hx1⟩
      rw [HX.out] at hc1
      obtain ⟨r0, r1, rz, hM⟩ := res_box hx1 hb
      have HF := hid (And.intro ((hc1.setNew (p := ⟨w.heap.size, 0, none⟩) (by simp; omega) (.int .i64 (kos (byt s i)))).setNew (p := ⟨w.heap.size, 1, none⟩) (by simp; omega) (.slice none 0 0)) (rd_none hx1 hb hc1 (.int .i64 (kos (byt s i))) (.slice none 0 0)).2)
      clear hc1 hx1
      go_wp2_with fail
      refine (kindOfSign_any _ HB.out _).mono ?_
      rintro e w2 ⟨rfl, rfl⟩
      go_wp2_with fail
      refine (typeOperands_any _ _).mono ?_
      rintro e w3 ⟨he, rfl⟩
      rw [HK.out] at he
      subst he
      go_wp2_with fail
      exact bodyPost_ret (v := .tuple #[.agg #[.int .i64 (kos (byt s i)), .slice none 0 0], .bool true]) (by simp [results, Try.results34, go_sem, r0, r1]) rfl (.inr ⟨_, _, _, _, _, _, [], HP.out, rfl, Ty.at_mk.2 ⟨_, rfl, .inl ⟨rfl, rfl, none, 0, rfl⟩⟩, Fresh.nil _ _, HF.out.1, HF.out.2⟩)
    · have HP := hid (show prs s (d + 1) i = none by simp only [prs, if_neg hp, if_neg hk])
      have hk0 : kidsOf (kos (byt s i)) ≠ 0 := fun h => hk ((kos_zero (byt s i)).1 h)
      have hk1 : (kidsOf (kos (byt s i)) != 0) = true := by simpa using hk0
      have hk2 : (kidsOf (kos (byt s i)) == 0) = false := by simpa using hk0
      clear hp hk
      go_enter Try.func34, Try.ntmps34
      go_wp2_with fail
      refine (next_any b s i _ H.out).mono ?_
      rintro e w1 ⟨rfl, hc1, hx1⟩
      obtain ⟨r0, r1, rz, hM⟩ := res_box hx1 hb
      have HF := hid (rd_none hx1 hb hc1 (.int .i64 0) (.slice none 0 0))
      clear hc1 hx1
      go_wp2_with fail
      refine (kindOfSign_any _ HB.out _).mono ?_
      rintro e w2 ⟨rfl, rfl⟩
      go_wp2_with fail
      refine (typeOperands_any _ _).mono ?_
      rintro e w3 ⟨rfl, rfl⟩
      go_wp2_with fail
      exact bodyPost_ret (v := .tuple #[.agg #[.int .i64 0, .slice none 0 0], .bool false]) (by simp [results, Try.results34, go_sem, r0, r1]) rfl (.inl ⟨HP.out, rfl, HF.out.1, HF.out.2⟩)
/-- The same, a block having been laid beside it. -/
theorem rd_none2 {b : Nat} {s : ByteArray} {j : Nat} {w wr : World} (h : Cx b (w.alloc (Obj.cells #[.int .i64 0, .slice none 0 0] 29)) wr) (hb : b < w.heap.size) (hc : CurAt b s j wr) (x y : Value) (Q : Obj) :
    (∃ j, CurAt b s j (((wr.setCell ⟨w.heap.size, 0, none⟩ x).setCell ⟨w.heap.size, 1, none⟩ y).alloc Q)) ∧ Cx b w (((wr.setCell ⟨w.heap.size, 0, none⟩ x).setCell ⟨w.heap.size, 1, none⟩ y).alloc Q) ∧ (((wr.setCell ⟨w.heap.size, 0, none⟩ x).setCell ⟨w.heap.size, 1, none⟩ y).alloc Q).cell? ⟨w.heap.size, 0, none⟩ = some x ∧ (((wr.setCell ⟨w.heap.size, 0, none⟩ x).setCell ⟨w.heap.size, 1, none⟩ y).alloc Q).cell? ⟨w.heap.size, 1, none⟩ = some y := by
  obtain ⟨⟨j', h1⟩, h2⟩ := rd_none h hb hc x y
  have h3 := (fin_b (h.blk (alloc_new w _) (by omega)) x y Q).2.1
  exact ⟨⟨j', h1.below ((Below.refl _ _).alloc (Nat.le_refl _) _)⟩, h2.alloc Q, by rw [cell_of_block h3]; rfl, by rw [cell_of_block h3]; rfl⟩

/-- A block just laid of a type's two cells stands while a cursor moves on. -/
theorem left_box {w wr : World} {b : Nat} {x y : Value} (h : Cx b (w.alloc (Obj.cells #[x, y] 29)) wr) (hb : b < w.heap.size) :
    wr.cell? ⟨w.heap.size, 0, none⟩ = some x ∧ wr.cell? ⟨w.heap.size, 1, none⟩ = some y := by
  have hk := h.blk (alloc_new w _) (by omega)
  exact ⟨by rw [cell_of_block hk]; rfl, by rw [cell_of_block hk]; rfl⟩

set_option maxHeartbeats 2000000 in
set_option maxRecDepth 100000 in
theorem readOperands_of (d : Nat) (ih : RtC d) : RoC d := by
  intro n b s i w hn0 hn hc
  have HIH := hid ih
  clear ih
  have HN := hid hn
  have hb := hc.lt
  have H := hid (hc.below ((Below.refl _ _).alloc (Nat.le_refl _) (Obj.cells #[.int .i64 0, .slice none 0 0] 29)))
  clear hn hc
  go_enter Try.func54, Try.ntmps54
  go_wp2_with fail
  refine (HIH.out n b s i _ hn0 HN.out H.out).mono ?_
  rintro e w1 (⟨hr, rfl, ⟨j, hc1⟩, hx1⟩ | ⟨t, j, k, m, a, c, fp, hr, rfl, hat, hf, hc1, hx1⟩)
  · obtain ⟨r0, r1, rz, hM⟩ := res_box hx1 hb
    obtain ⟨g1, g2, q0, q1⟩ := rd_none2 hx1 hb hc1 (.int .i64 0) (.slice none 0 0) (Obj.cells #[.int .i64 0, .slice none 0 0] 29)
    have HF := hid (And.intro g1 g2)
    have HR := hid (show oprW s (prs s d) i = none by simp only [oprW, hr])
    clear hr hc1 hx1 g1 g2
    go_wp2_with fail
    exact bodyPost_ret (v := .tuple #[.agg #[.int .i64 0, .slice none 0 0], .bool false]) (by simp [results, Try.results54, go_sem, q0, q1]) rfl (.inl ⟨HR.out, rfl, HF.out.1, HF.out.2⟩)
  have hsz1 : w.heap.size + 1 ≤ w1.heap.size := by have := hx1.size; simp at this; omega
  have hb1 : b < w1.heap.size := hc1.lt
  have hal : Below w1.heap.size w1 (w1.alloc (Obj.cells #[.int .i64 k, .slice a m c] 29)) := (Below.refl _ _).alloc (Nat.le_refl _) _
  have HA := hid hal
  have HC1 := hid (hc1.below hal)
  have HX1 := hid hx1
  have HAT1 := hid hat
  have HF1 := hid hf
  have HB := hid (byt_lt s j)
  clear hc1 hx1 hat hf hal
  by_cases hs : byt s j = 62 ∨ byt s j = 42
  · have HK := hid ((kos_two (byt s j)).2 hs)
    have HX := hid (nxt_in (s := s) (i := j) (by omega))
    have HR1 := hid (show oprW s (prs s d) i = (match prs s d (j + 1) with | none => none | some (b, l) => if byt s l = 41 then some (.mk (kos (byt s j)) [t, b], l + 1) else none) by simp only [oprW, hr, if_pos hs]; rfl)
    clear hs hr
    go_wp2_with fail
    refine (next_any b s j _ HC1.out).mono ?_
    rintro e w2 ⟨rfl, hc2, hx2⟩
    rw [HX.out] at hc2
    go_wp2_with fail
    refine (kindOfSign_any _ HB.out _).mono ?_
    rintro e w2' ⟨rfl, rfl⟩
    go_wp2_with fail
    refine (typeOperands_any _ _).mono ?_
    rintro e w2' ⟨he, rfl⟩
    rw [HK.out] at he
    subst he
    have HC2 := hid hc2
    have HX2 := hid hx2
    clear hc2 hx2
    go_wp2_with fail
    refine (HIH.out n b s (j + 1) _ hn0 HN.out HC2.out).mono ?_
    rintro e w3 (⟨hr, rfl, ⟨l, hc3⟩, hx3⟩ | ⟨u, l, k2, m2, a2, c2, fp2, hr, rfl, hat2, hf2, hc3, hx3⟩)
    · have hxx := HX1.out.trans ((Cx.of_below HA.out).trans (HX2.out.trans hx3))
      obtain ⟨r0, r1, rz, hM⟩ := res_box hxx hb
      obtain ⟨g1, g2, q0, q1⟩ := rd_none2 hxx hb hc3 (.int .i64 0) (.slice none 0 0) (Obj.cells #[.int .i64 0, .slice none 0 0] 29)
      have HF := hid (And.intro g1 g2)
      have HR := hid (show oprW s (prs s d) i = none by rw [HR1.out, hr])
      clear hr hc3 hx3 g1 g2 hxx
      go_wp2_with fail
      exact bodyPost_ret (v := .tuple #[.agg #[.int .i64 0, .slice none 0 0], .bool false]) (by simp [results, Try.results54, go_sem, q0, q1]) rfl (.inl ⟨HR.out, rfl, HF.out.1, HF.out.2⟩)
    have hal : Below w3.heap.size w3 (w3.alloc (Obj.cells #[.int .i64 k2, .slice a2 m2 c2] 29)) := (Below.refl _ _).alloc (Nat.le_refl _) _
    have hb3 : b < w3.heap.size := hc3.lt
    have HA3 := hid hal
    have HC3 := hid (hc3.below hal)
    have HX3 := hid hx3
    have HAT2 := hid hat2
    have HF2 := hid hf2
    have HB2 := hid (byt_lt s l)
    have HR2 := hid (show oprW s (prs s d) i = if byt s l = 41 then some (.mk (kos (byt s j)) [t, u], l + 1) else none by rw [HR1.out, hr])
    clear hc3 hx3 hat2 hf2 hal hr
    by_cases hs2 : byt s l = 41
    · have hq : ((byt s l : Int) != 41) = false := by simp [hs2]
      have hq2 : ((byt s l : Int) == 41) = true := by simp [hs2]
      have HQ := hid hs2
      have HX := hid (nxt_in (s := s) (i := l) (by omega))
      have HR := hid (show oprW s (prs s d) i = some (.mk (kos (byt s j)) [t, u], l + 1) by rw [HR2.out, if_pos hs2])
      clear hs2 hq hq2
      go_wp2_with fail
      refine (next_any b s l _ HC3.out).mono ?_
      rintro e w4 ⟨he, hc4, hx4⟩
      rw [HQ.out] at he
      rw [HX.out] at hc4
      subst he
      obtain ⟨y0, y1⟩ := left_box hx4 hb3
      have hx34 := (Cx.of_below HA3.out).trans hx4
      have hx14 := HX2.out.trans (HX3.out.trans hx34)
      obtain ⟨x0, x1⟩ := left_box hx14 hb1
      have hx04 := HX1.out.trans ((Cx.of_below HA.out).trans hx14)
      obtain ⟨r0, r1, rz, hM⟩ := res_box hx04 hb
      obtain ⟨⟨j9, g1⟩, g2, q0, q1⟩ := rd_none2 hx04 hb hc4 (.int .i64 (kos (byt s j))) (.slice (some ⟨w4.heap.size, 0, none⟩) 2 2) (Obj.cells #[.int .i64 k, .slice a m c, .int .i64 k2, .slice a2 m2 c2] 29)
      obtain ⟨p1, p2, p3⟩ := fin_b (y := w4) (R := w.heap.size) (z0 := .int .i64 0) (z1 := .slice none 0 0) (T := 29) (hx04.blk (alloc_new w _) (by omega)) (.int .i64 (kos (byt s j))) (.slice (some ⟨w4.heap.size, 0, none⟩) 2 2) (Obj.cells #[.int .i64 k, .slice a m c, .int .i64 k2, .slice a2 m2 c2] 29)
      have hs12 : w1.heap.size + 1 ≤ w2'.heap.size := by have := HX2.out.size; simp at this; omega
      have hfz1 : ∀ x ∈ fp, x ≠ b := fun x hx e => by have := (HF1.out.2 x hx).1; simp at this; omega
      have hfz2 : ∀ x ∈ fp2, x ≠ b := fun x hx e => by have := (HF2.out.2 x hx).1; omega
      have ht4 := hx14.ty (HAT1.out.below HA.out) hfz1
      have hu4 := hx34.ty HAT2.out hfz2
      have hg4 : Fresh w.heap.size w4 fp := hx14.fresh ((HF1.out.below HA.out).mono (by simp)) hb |> fun h => h
      have hv4 : Fresh w2'.heap.size w4 fp2 := hx34.fresh HF2.out (by omega)
      have hfin := two_in (k := kos (byt s j)) ht4 hu4 hg4 hv4 (fun x hx => by have := (HF1.out.2 x hx).2.1; omega) (by omega) (by omega) (Nat.le_refl _) p1 p3 (fun x hx e => by have := (HF1.out.2 x hx).1; simp at this; omega) (fun x hx e => by have := (HF2.out.2 x hx).1; omega)
      have hcur : CurAt b s (l + 1) (((w4.setCell ⟨w.heap.size, 0, none⟩ (.int .i64 (kos (byt s j)))).setCell ⟨w.heap.size, 1, none⟩ (.slice (some ⟨w4.heap.size, 0, none⟩) 2 2)).alloc (Obj.cells #[.int .i64 k, .slice a m c, .int .i64 k2, .slice a2 m2 c2] 29)) := ((hc4.setNew (p := ⟨w.heap.size, 0, none⟩) (by simp; omega) _).setNew (p := ⟨w.heap.size, 1, none⟩) (by simp; omega) _).below ((Below.refl _ _).alloc (Nat.le_refl _) _)
      have HF := hid (And.intro hfin (And.intro hcur g2))
      clear hfin hcur g1 g2 hg4 hv4 ht4 hu4 hx04 hx14 hx34 hx4 hc4 p1 p2 p3 hfz1 hfz2
      go_wp2_with fail
      exact bodyPost_ret (v := .tuple #[.agg #[.int .i64 (kos (byt s j)), .slice (some ⟨w4.heap.size, 0, none⟩) 2 2], .bool true]) (by simp [results, Try.results54, go_sem, q0, q1]) rfl (.inr ⟨_, _, _, _, _, _, _, HR.out, rfl, HF.out.1.1, HF.out.1.2, HF.out.2.1, HF.out.2.2⟩)
    · have hq : ((byt s l : Int) != 41) = true := by simp; omega
      have hq2 : ((byt s l : Int) == 41) = false := by simp; omega
      have HR := hid (show oprW s (prs s d) i = none by rw [HR2.out, if_neg hs2])
      clear hs2
      go_wp2_with fail
      refine (next_any b s l _ HC3.out).mono ?_
      rintro e w4 ⟨rfl, hc4, hx4⟩
      have hxx := HX1.out.trans ((Cx.of_below HA.out).trans (HX2.out.trans (HX3.out.trans ((Cx.of_below HA3.out).trans hx4))))
      obtain ⟨r0, r1, rz, hM⟩ := res_box hxx hb
      have HF := hid (rd_none hxx hb hc4 (.int .i64 0) (.slice none 0 0))
      clear hc4 hx4 hxx
      go_wp2_with fail
      exact bodyPost_ret (v := .tuple #[.agg #[.int .i64 0, .slice none 0 0], .bool false]) (by simp [results, Try.results54, go_sem, r0, r1]) rfl (.inl ⟨HR.out, rfl, HF.out.1, HF.out.2⟩)
  · have hk0 : kidsOf (kos (byt s j)) ≠ 2 := fun h => hs ((kos_two (byt s j)).1 h)
    have hk1 : (kidsOf (kos (byt s j)) != 2) = true := by simpa using hk0
    have hk2 : (kidsOf (kos (byt s j)) == 2) = false := by simpa using hk0
    have HR := hid (show oprW s (prs s d) i = none by simp only [oprW, hr, if_neg hs])
    clear hs hr hk0
    go_wp2_with fail
    refine (next_any b s j _ HC1.out).mono ?_
    rintro e w2 ⟨rfl, hc2, hx2⟩
    have hxx := HX1.out.trans ((Cx.of_below HA.out).trans hx2)
    obtain ⟨r0, r1, rz, hM⟩ := res_box hxx hb
    have HF := hid (rd_none hxx hb hc2 (.int .i64 0) (.slice none 0 0))
    clear hc2 hx2 hxx
    go_wp2_with fail
    refine (kindOfSign_any _ HB.out _).mono ?_
    rintro e w2' ⟨rfl, rfl⟩
    go_wp2_with fail
    refine (typeOperands_any _ _).mono ?_
    rintro e w2' ⟨rfl, rfl⟩
    go_wp2_with fail
    exact bodyPost_ret (v := .tuple #[.agg #[.int .i64 0, .slice none 0 0], .bool false]) (by simp [results, Try.results54, go_sem, r0, r1]) rfl (.inl ⟨HR.out, rfl, HF.out.1, HF.out.2⟩)

theorem readType_any : ∀ d : Nat, RtC d
  | 0 => readType_zero
  | d + 1 => readType_succ d (readOperands_of d (readType_any d))
end Go.Proofs.Ytnpofpjaejnejaa

/- ParseType, of the specification. -/
import Derived.Test.YtnpofpjaejnejaaRdP
namespace Go.Proofs.Ytnpofpjaejnejaa
open Go.RowKit

/-- What the specification's reading says. -/
def Ps (r : Option (Ty × Nat)) (w : World) (e : Ending) (w' : World) : Prop :=
  (r = none ∧ e = .returned (.tuple #[.agg #[.int .i64 0, .slice none 0 0], .int .i64 (-1)]) ∧ Below w.heap.size w w') ∨
  ∃ t j k n a c fp, r = some (t, j) ∧ e = .returned (.tuple #[.agg #[.int .i64 k, .slice a n c], .int .i64 ((j : Nat) : Int)]) ∧ t.At w' (.agg #[.int .i64 k, .slice a n c]) fp ∧ Fresh w.heap.size w' fp ∧ Below w.heap.size w w'

def PsC (d : Nat) : Prop := ∀ (n : Int) (s : ByteArray) (p : Int) (i : Nat) (w : World), p = (i : Int) → n ≤ 100 → n.toNat = d → i ≤ s.size → s.size ≤ 1048576 →
  Calls Try.prog 33 #[.string s, .int .i64 p, .int .i64 n] w (Ps (prs s d i) w)

set_option maxHeartbeats 400000 in
theorem l1Parse_zero : PsC 0 := by
  intro n s p i w hp hn0 hn hi hs
  subst hp
  have hn2 : decide (n < 1) = true := by simp; omega
  have hn1 : n < 1 := by omega
  have HF := hid (show Below w.heap.size w (w.alloc (Obj.cells #[.int .i64 0, .slice none 0 0] 29)) from (Below.refl _ _).alloc (Nat.le_refl _) _)
  have HR := hid (show prs s 0 i = none by simp only [prs])
  clear hn
  go_enter Try.func33, Try.ntmps33
  go_wp2_with fail
  exact bodyPost_ret (v := .tuple #[.agg #[.int .i64 0, .slice none 0 0], .int .i64 (-1)]) (by simp [results, Try.results33, go_sem]) rfl (.inl ⟨HR.out, rfl, HF.out⟩)

/-- A byte that is at hand. -/
theorem byt_at {s : ByteArray} {i : Nat} (h : i < s.size) : byt s i = (s[i]'h).toNat := by simp [byt, h]

/-- The result's cells behind a call that only made memory, one block laid beside it. -/
theorem ps_none {w wr : World} (h : Below (w.alloc (Obj.cells #[.int .i64 0, .slice none 0 0] 29)).heap.size (w.alloc (Obj.cells #[.int .i64 0, .slice none 0 0] 29)) wr) (x y : Value) (Q : Obj) :
    Below w.heap.size w (((wr.setCell ⟨w.heap.size, 0, none⟩ x).setCell ⟨w.heap.size, 1, none⟩ y).alloc Q) ∧ (((wr.setCell ⟨w.heap.size, 0, none⟩ x).setCell ⟨w.heap.size, 1, none⟩ y).alloc Q).cell? ⟨w.heap.size, 0, none⟩ = some x ∧ (((wr.setCell ⟨w.heap.size, 0, none⟩ x).setCell ⟨w.heap.size, 1, none⟩ y).alloc Q).cell? ⟨w.heap.size, 1, none⟩ = some y ∧
    wr.cell? ⟨w.heap.size, 0, none⟩ = some (.int .i64 0) ∧ wr.cell? ⟨w.heap.size, 1, none⟩ = some (.slice none 0 0) ∧ (∀ o, wr.frozen? ⟨w.heap.size, o, none⟩ = false) ∧ w.heap.size < wr.heap.size := by
  have hM := (h.block w.heap.size (by simp)).trans (alloc_new w _)
  have h3 := (fin_b hM x y Q).2.1
  have h1 := alloc1 h
  exact ⟨((h1.setCell (Nat.le_refl _) _).setCell (Nat.le_refl _) _).alloc (by simp; exact h1.size) _, by rw [cell_of_block h3]; rfl, by rw [cell_of_block h3]; rfl, by rw [cell_of_block hM]; rfl, by rw [cell_of_block hM]; rfl, fun o => frozen_of_block hM, lt_of_block hM⟩

theorem fin_c {y : World} {R : Nat} {z0 z1 : Value} {T : TypeId} (h : y.heap[R]? = some (.cells #[z0, z1] T (0, 0))) (a b : Value) (P Q : Obj) :
    ((((y.setCell ⟨R, 0, none⟩ a).setCell ⟨R, 1, none⟩ b).alloc P).alloc Q).heap[y.heap.size + 1]? = some Q ∧ ((((y.setCell ⟨R, 0, none⟩ a).setCell ⟨R, 1, none⟩ b).alloc P).alloc Q).heap[R]? = some (.cells #[a, b] T (0, 0)) ∧
    ∀ i, i < y.heap.size → i ≠ R → ((((y.setCell ⟨R, 0, none⟩ a).setCell ⟨R, 1, none⟩ b).alloc P).alloc Q).heap[i]? = y.heap[i]? := by
  obtain ⟨h1, h2, h3⟩ := fin_b h a b P
  have hs : (((y.setCell ⟨R, 0, none⟩ a).setCell ⟨R, 1, none⟩ b).alloc P).heap.size = y.heap.size + 1 := by simp
  have hR := lt_of_block h
  refine ⟨?_, ?_, fun i hi hn => ?_⟩
  · rw [← hs]
    exact alloc_new _ _
  · rw [Below.heap_alloc _ _ _ (by rw [hs]; omega)]
    exact h2
  · rw [Below.heap_alloc _ _ _ (by rw [hs]; omega)]
    exact h3 i hi hn

set_option maxHeartbeats 4000000 in
set_option maxRecDepth 100000 in
theorem l1Parse_succ (d : Nat) (ih : PsC d) : PsC (d + 1) := by
  intro n s p i w hp hn0 hn hi hs
  subst hp
  have HIH := hid ih
  clear ih
  have hn1 : 1 ≤ n := by omega
  have hn2 : decide (n < 1) = false := by simp; omega
  have HN := hid hn
  have HB := hid (show Below w.heap.size w (w.alloc (Obj.cells #[.int .i64 0, .slice none 0 0] 29)) from (Below.refl _ _).alloc (Nat.le_refl _) _)
  clear hn
  by_cases hlt : i < s.size
  case neg =>
    have HR := hid (show prs s (d + 1) i = none by simp [prs, byt, hlt])
    have HF := hid HB.out
    have hi2 : s.size ≤ i := by omega
    go_enter Try.func33, Try.ntmps33
    go_wp2_with fail
    exact bodyPost_ret (v := .tuple #[.agg #[.int .i64 0, .slice none 0 0], .int .i64 (-1)]) (by simp [results, Try.results33, go_sem]) rfl (.inl ⟨HR.out, rfl, HF.out⟩)
  have hbt := byt_at hlt
  generalize hcc : (s[i]'hlt).toNat = cc at *
  have HCC := hid hcc
  have HBT := hid hbt
  by_cases h63 : cc = 63
  · have HR := hid (show prs s (d + 1) i = some (.mk 1 [], i + 1) by simp [prs, hbt, h63, kos])
    subst h63
    have HF := hid (HB.out)
    clear hbt
    have HC := hid hcc
    have e1 : ((s[i]'hlt).toNat : Int) = 63 := by rw [hcc]; rfl
    clear hcc
    go_enter Try.func33, Try.ntmps33
    go_wp2_with fail
    exact bodyPost_ret (v := .tuple #[.agg #[.int .i64 1, .slice none 0 0], .int .i64 ((i + 1 : Nat) : Int)]) (by simp [results, Try.results33, go_sem]) rfl (.inr ⟨_, _, _, _, _, _, [], HR.out, rfl, Ty.at_mk.2 ⟨_, rfl, .inl ⟨rfl, rfl, none, 0, rfl⟩⟩, Fresh.nil _ _, (Below.refl _ _).alloc (Nat.le_refl _) _⟩)
  by_cases h73 : cc = 73
  · have HR := hid (show prs s (d + 1) i = some (.mk 2 [], i + 1) by simp [prs, hbt, h73, kos])
    subst h73
    have HF := hid (HB.out)
    clear hbt
    have HC := hid hcc
    have e1 : ((s[i]'hlt).toNat : Int) = 73 := by rw [hcc]; rfl
    clear hcc
    go_enter Try.func33, Try.ntmps33
    go_wp2_with fail
    exact bodyPost_ret (v := .tuple #[.agg #[.int .i64 2, .slice none 0 0], .int .i64 ((i + 1 : Nat) : Int)]) (by simp [results, Try.results33, go_sem]) rfl (.inr ⟨_, _, _, _, _, _, [], HR.out, rfl, Ty.at_mk.2 ⟨_, rfl, .inl ⟨rfl, rfl, none, 0, rfl⟩⟩, Fresh.nil _ _, (Below.refl _ _).alloc (Nat.le_refl _) _⟩)
  by_cases h66 : cc = 66
  · have HR := hid (show prs s (d + 1) i = some (.mk 3 [], i + 1) by simp [prs, hbt, h66, kos])
    subst h66
    have HF := hid (HB.out)
    clear hbt
    have HC := hid hcc
    have e1 : ((s[i]'hlt).toNat : Int) = 66 := by rw [hcc]; rfl
    clear hcc
    go_enter Try.func33, Try.ntmps33
    go_wp2_with fail
    exact bodyPost_ret (v := .tuple #[.agg #[.int .i64 3, .slice none 0 0], .int .i64 ((i + 1 : Nat) : Int)]) (by simp [results, Try.results33, go_sem]) rfl (.inr ⟨_, _, _, _, _, _, [], HR.out, rfl, Ty.at_mk.2 ⟨_, rfl, .inl ⟨rfl, rfl, none, 0, rfl⟩⟩, Fresh.nil _ _, (Below.refl _ _).alloc (Nat.le_refl _) _⟩)
  by_cases h40 : cc = 40
  case neg =>
    have HR := hid (show prs s (d + 1) i = none by simp [prs, hbt, h40, h63, h73, h66])
    have HF := hid HB.out
    have e63 : (((s[i]'hlt).toNat : Int) == 63) = false := by rw [hcc]; simp; omega
    have e73 : (((s[i]'hlt).toNat : Int) == 73) = false := by rw [hcc]; simp; omega
    have e66 : (((s[i]'hlt).toNat : Int) == 66) = false := by rw [hcc]; simp; omega
    have e40 : (((s[i]'hlt).toNat : Int) == 40) = false := by rw [hcc]; simp; omega
    clear hcc hbt
    go_enter Try.func33, Try.ntmps33
    go_wp2_with fail
    exact bodyPost_ret (v := .tuple #[.agg #[.int .i64 0, .slice none 0 0], .int .i64 (-1)]) (by simp [results, Try.results33, go_sem]) rfl (.inl ⟨HR.out, rfl, HF.out⟩)
  subst h40
  have HP := hid (show prs s (d + 1) i = oprW s (prs s d) (i + 1) by simp [prs, hbt])
  have e1 : ((s[i]'hlt).toNat : Int) = 40 := by rw [hcc]; rfl
  clear hcc hbt h63 h73 h66
  go_enter Try.func33, Try.ntmps33
  go_wp2_with fail
  refine (HIH.out (n - 1) s _ (i + 1) _ (by omega) (by omega) (by have := HN.out; omega) (by omega) hs).mono ?_
  rintro e w1 (⟨hr, rfl, hb1⟩ | ⟨t, j, k, m, a, c, fp, hr, rfl, hat, hf, hb1⟩)
  · obtain ⟨g1, q0, q1, r0, r1, rz, hM⟩ := ps_none hb1 (.int .i64 0) (.slice none 0 0) (Obj.cells #[.int .i64 0, .slice none 0 0] 29)
    have HF := hid g1
    have HR := hid (show prs s (d + 1) i = none by rw [HP.out]; simp only [oprW, hr])
    clear hr hb1 g1
    go_wp2_with fail
    exact bodyPost_ret (v := .tuple #[.agg #[.int .i64 0, .slice none 0 0], .int .i64 (-1)]) (by simp [results, Try.results33, go_sem, q0, q1]) rfl (.inl ⟨HR.out, rfl, HF.out⟩)
  have hjs := prs_le hr
  have HB1 := hid hb1
  have hal : Below w1.heap.size w1 (w1.alloc (Obj.cells #[.int .i64 k, .slice a m c] 29)) := (Below.refl _ _).alloc (Nat.le_refl _) _
  have HA := hid hal
  have HAT := hid hat
  have HFR := hid hf
  obtain ⟨-, -, -, r0, r1, rz, hM⟩ := ps_none hb1 (.int .i64 0) (.slice none 0 0) (Obj.cells #[.int .i64 0, .slice none 0 0] 29)
  clear hb1 hat hf hal
  by_cases hj : j < s.size
  case neg =>
    have hj2 : s.size ≤ j := by omega
    have hb9 := byt_lt s j
    have HR := hid (show prs s (d + 1) i = none by rw [HP.out]; simp [oprW, hr, byt, hj])
    obtain ⟨g1, q0, q1, -⟩ := ps_none HB1.out (.int .i64 0) (.slice none 0 0) (Obj.cells #[.int .i64 k, .slice a m c] 29)
    have HF := hid g1
    clear hr g1 hb9
    go_wp2_with fail
    exact bodyPost_ret (v := .tuple #[.agg #[.int .i64 0, .slice none 0 0], .int .i64 (-1)]) (by simp [results, Try.results33, go_sem, q0, q1]) rfl (.inl ⟨HR.out, rfl, HF.out⟩)
  have hbt := byt_at hj
  generalize hcc : (s[j]'hj).toNat = cc at *
  have HC := hid hcc
  have HO := hid (show prs s (d + 1) i = (if cc = 62 ∨ cc = 42 then (match prs s d (j + 1) with | none => none | some (b, l) => if byt s l = 41 then some (.mk (kos cc) [t, b], l + 1) else none) else none) by rw [HP.out]; simp only [oprW, hr, hbt]; rfl)
  clear hr hbt
  by_cases h62 : cc = 62
  · have HK := hid (show kos cc = 4 by rw [h62]; rfl)
    have e62 : ((s[j]'hj).toNat : Int) = 62 := by rw [hcc, h62]; rfl
    have HM := hid (show prs s (d + 1) i = (match prs s d (j + 1) with | none => none | some (b, l) => if byt s l = 41 then some (.mk 4 [t, b], l + 1) else none) by rw [HO.out, if_pos (by omega), HK.out])
    clear hcc h62
    go_wp2_with fail
    refine (HIH.out (n - 1) s _ (j + 1) _ (by omega) (by omega) (by have := HN.out; omega) (by omega) hs).mono ?_
    rintro e w2 (⟨hr, rfl, hb2⟩ | ⟨u, l, k2, m2, a2, c2, fp2, hr, rfl, hat2, hf2, hb2⟩)
    · have hbb := HB1.out.trans ((HA.out.trans (hb2.mono HA.out.size)).mono HB1.out.size)
      obtain ⟨g1, q0, q1, r0, r1, rz, hM⟩ := ps_none hbb (.int .i64 0) (.slice none 0 0) (Obj.cells #[.int .i64 0, .slice none 0 0] 29)
      have HF := hid g1
      have HR := hid (show prs s (d + 1) i = none by rw [HM.out, hr])
      clear hr hb2 g1 hbb
      go_wp2_with fail
      exact bodyPost_ret (v := .tuple #[.agg #[.int .i64 0, .slice none 0 0], .int .i64 (-1)]) (by simp [results, Try.results33, go_sem, q0, q1]) rfl (.inl ⟨HR.out, rfl, HF.out⟩)
    have hls := prs_le hr
    have hbb := HB1.out.trans ((HA.out.trans (hb2.mono HA.out.size)).mono HB1.out.size)
    have HBB := hid hbb
    obtain ⟨y0, y1⟩ := box_cells hb2
    have HB2 := hid hb2
    have HAT2 := hid hat2
    have HFR2 := hid hf2
    have HR2 := hid (show prs s (d + 1) i = (if byt s l = 41 then some (.mk 4 [t, u], l + 1) else none) by rw [HM.out, hr])
    clear r0 r1 rz hM
    obtain ⟨-, -, -, r0, r1, rz, hM⟩ := ps_none hbb (.int .i64 0) (.slice none 0 0) (Obj.cells #[.int .i64 0, .slice none 0 0] 29)
    have hsz : w1.heap.size < w2.heap.size := World.block_lt_of_cell? _ _ y0
    clear hr hb2 hat2 hf2 hbb
    by_cases hl : l < s.size
    case neg =>
      have hl2 : s.size ≤ l := by omega
      have HR := hid (show prs s (d + 1) i = none by rw [HR2.out]; simp [byt, hl])
      obtain ⟨g1, q0, q1, -⟩ := ps_none HBB.out (.int .i64 0) (.slice none 0 0) (Obj.cells #[.int .i64 k2, .slice a2 m2 c2] 29)
      have HF := hid g1
      clear g1
      go_wp2_with fail
      exact bodyPost_ret (v := .tuple #[.agg #[.int .i64 0, .slice none 0 0], .int .i64 (-1)]) (by simp [results, Try.results33, go_sem, q0, q1]) rfl (.inl ⟨HR.out, rfl, HF.out⟩)
    have hbl := byt_at hl
    generalize hc5 : (s[l]'hl).toNat = c5 at *
    by_cases h41 : c5 = 41
    · have e41 : ((s[l]'hl).toNat : Int) = 41 := by rw [hc5, h41]; rfl
      have HR := hid (show prs s (d + 1) i = some (.mk 4 [t, u], l + 1) by rw [HR2.out, hbl, if_pos h41])
      have hblk := (HBB.out.block w.heap.size (by simp)).trans (alloc_new w _)
      obtain ⟨p1, p2, p3⟩ := fin_c hblk (.int .i64 4) (.slice (some ⟨w2.heap.size + 1, 0, none⟩) 2 2) (Obj.cells #[.int .i64 k2, .slice a2 m2 c2] 29) (Obj.cells #[.int .i64 k, .slice a m c, .int .i64 k2, .slice a2 m2 c2] 29)
      have q0 := cell_of_block (o := 0) p2
      have q1 := cell_of_block (o := 1) p2
      simp at q0 q1
      have hs1 : w.heap.size + 1 ≤ w1.heap.size := by have := HB1.out.size; simp at this; omega
      have ht2 := (HAT.out.below HA.out).below HB2.out
      have hg2 : Fresh w.heap.size w2 fp := ((HFR.out.below HA.out).below HB2.out).mono (by simp)
      have hv2 : Fresh (w1.heap.size + 1) w2 fp2 := HFR2.out.mono (by simp)
      have hfin := two_in (k := 4) ht2 HAT2.out hg2 hv2 (fun x hx => by have := (HFR.out.2 x hx).2.1; omega) (by omega) (by omega) (Nat.le_succ _) p1 p3 (fun x hx e => by have := (HFR.out.2 x hx).1; simp at this; omega) (fun x hx e => by have := (HFR2.out.2 x hx).1; simp at this; omega)
      have hbz : Below w.heap.size w ((((w2.setCell ⟨w.heap.size, 0, none⟩ (.int .i64 4)).setCell ⟨w.heap.size, 1, none⟩ (.slice (some ⟨w2.heap.size + 1, 0, none⟩) 2 2)).alloc (Obj.cells #[.int .i64 k2, .slice a2 m2 c2] 29)).alloc (Obj.cells #[.int .i64 k, .slice a m c, .int .i64 k2, .slice a2 m2 c2] 29)) :=
        ((((alloc1 HBB.out).setCell (p := ⟨w.heap.size, 0, none⟩) (Nat.le_refl _) _).setCell (p := ⟨w.heap.size, 1, none⟩) (Nat.le_refl _) _).alloc (by simp; omega) _).alloc (by simp; omega) _
      have HF := hid (And.intro hfin hbz)
      clear hfin hbz hc5 h41 hbl ht2 hg2 hv2 p1 p2 p3 hblk
      go_wp2_with fail
      exact bodyPost_ret (v := .tuple #[.agg #[.int .i64 4, .slice (some ⟨w2.heap.size + 1, 0, none⟩) 2 2], .int .i64 ((l + 1 : Nat) : Int)]) (by simp [results, Try.results33, go_sem, q0, q1]) rfl (.inr ⟨_, _, _, _, _, _, _, HR.out, rfl, HF.out.1.1, HF.out.1.2, HF.out.2⟩)
    · have e41 : (((s[l]'hl).toNat : Int) == 41) = false := by rw [hc5]; simp; omega
      have e41n : (((s[l]'hl).toNat : Int) != 41) = true := by rw [hc5]; simp; omega
      have HR := hid (show prs s (d + 1) i = none by rw [HR2.out, hbl, if_neg h41])
      obtain ⟨g1, q0, q1, -⟩ := ps_none HBB.out (.int .i64 0) (.slice none 0 0) (Obj.cells #[.int .i64 k2, .slice a2 m2 c2] 29)
      have HF := hid g1
      clear g1 hc5 hbl h41
      go_wp2_with fail
      exact bodyPost_ret (v := .tuple #[.agg #[.int .i64 0, .slice none 0 0], .int .i64 (-1)]) (by simp [results, Try.results33, go_sem, q0, q1]) rfl (.inl ⟨HR.out, rfl, HF.out⟩)
  by_cases h42 : cc = 42
  · have HK := hid (show kos cc = 5 by rw [h42]; rfl)
    have e62 : ((s[j]'hj).toNat : Int) = 42 := by rw [hcc, h42]; rfl
    have HM := hid (show prs s (d + 1) i = (match prs s d (j + 1) with | none => none | some (b, l) => if byt s l = 41 then some (.mk 5 [t, b], l + 1) else none) by rw [HO.out, if_pos (by omega), HK.out])
    clear hcc h42
    go_wp2_with fail
    refine (HIH.out (n - 1) s _ (j + 1) _ (by omega) (by omega) (by have := HN.out; omega) (by omega) hs).mono ?_
    rintro e w2 (⟨hr, rfl, hb2⟩ | ⟨u, l, k2, m2, a2, c2, fp2, hr, rfl, hat2, hf2, hb2⟩)
    · have hbb := HB1.out.trans ((HA.out.trans (hb2.mono HA.out.size)).mono HB1.out.size)
      obtain ⟨g1, q0, q1, r0, r1, rz, hM⟩ := ps_none hbb (.int .i64 0) (.slice none 0 0) (Obj.cells #[.int .i64 0, .slice none 0 0] 29)
      have HF := hid g1
      have HR := hid (show prs s (d + 1) i = none by rw [HM.out, hr])
      clear hr hb2 g1 hbb
      go_wp2_with fail
      exact bodyPost_ret (v := .tuple #[.agg #[.int .i64 0, .slice none 0 0], .int .i64 (-1)]) (by simp [results, Try.results33, go_sem, q0, q1]) rfl (.inl ⟨HR.out, rfl, HF.out⟩)
    have hls := prs_le hr
    have hbb := HB1.out.trans ((HA.out.trans (hb2.mono HA.out.size)).mono HB1.out.size)
    have HBB := hid hbb
    obtain ⟨y0, y1⟩ := box_cells hb2
    have HB2 := hid hb2
    have HAT2 := hid hat2
    have HFR2 := hid hf2
    have HR2 := hid (show prs s (d + 1) i = (if byt s l = 41 then some (.mk 5 [t, u], l + 1) else none) by rw [HM.out, hr])
    clear r0 r1 rz hM
    obtain ⟨-, -, -, r0, r1, rz, hM⟩ := ps_none hbb (.int .i64 0) (.slice none 0 0) (Obj.cells #[.int .i64 0, .slice none 0 0] 29)
    have hsz : w1.heap.size < w2.heap.size := World.block_lt_of_cell? _ _ y0
    clear hr hb2 hat2 hf2 hbb
    by_cases hl : l < s.size
    case neg =>
      have hl2 : s.size ≤ l := by omega
      have HR := hid (show prs s (d + 1) i = none by rw [HR2.out]; simp [byt, hl])
      obtain ⟨g1, q0, q1, -⟩ := ps_none HBB.out (.int .i64 0) (.slice none 0 0) (Obj.cells #[.int .i64 k2, .slice a2 m2 c2] 29)
      have HF := hid g1
      clear g1
      go_wp2_with fail
      exact bodyPost_ret (v := .tuple #[.agg #[.int .i64 0, .slice none 0 0], .int .i64 (-1)]) (by simp [results, Try.results33, go_sem, q0, q1]) rfl (.inl ⟨HR.out, rfl, HF.out⟩)
    have hbl := byt_at hl
    generalize hc5 : (s[l]'hl).toNat = c5 at *
    by_cases h41 : c5 = 41
    · have e41 : ((s[l]'hl).toNat : Int) = 41 := by rw [hc5, h41]; rfl
      have HR := hid (show prs s (d + 1) i = some (.mk 5 [t, u], l + 1) by rw [HR2.out, hbl, if_pos h41])
      have hblk := (HBB.out.block w.heap.size (by simp)).trans (alloc_new w _)
      obtain ⟨p1, p2, p3⟩ := fin_c hblk (.int .i64 5) (.slice (some ⟨w2.heap.size + 1, 0, none⟩) 2 2) (Obj.cells #[.int .i64 k2, .slice a2 m2 c2] 29) (Obj.cells #[.int .i64 k, .slice a m c, .int .i64 k2, .slice a2 m2 c2] 29)
      have q0 := cell_of_block (o := 0) p2
      have q1 := cell_of_block (o := 1) p2
      simp at q0 q1
      have hs1 : w.heap.size + 1 ≤ w1.heap.size := by have := HB1.out.size; simp at this; omega
      have ht2 := (HAT.out.below HA.out).below HB2.out
      have hg2 : Fresh w.heap.size w2 fp := ((HFR.out.below HA.out).below HB2.out).mono (by simp)
      have hv2 : Fresh (w1.heap.size + 1) w2 fp2 := HFR2.out.mono (by simp)
      have hfin := two_in (k := 5) ht2 HAT2.out hg2 hv2 (fun x hx => by have := (HFR.out.2 x hx).2.1; omega) (by omega) (by omega) (Nat.le_succ _) p1 p3 (fun x hx e => by have := (HFR.out.2 x hx).1; simp at this; omega) (fun x hx e => by have := (HFR2.out.2 x hx).1; simp at this; omega)
      have hbz : Below w.heap.size w ((((w2.setCell ⟨w.heap.size, 0, none⟩ (.int .i64 5)).setCell ⟨w.heap.size, 1, none⟩ (.slice (some ⟨w2.heap.size + 1, 0, none⟩) 2 2)).alloc (Obj.cells #[.int .i64 k2, .slice a2 m2 c2] 29)).alloc (Obj.cells #[.int .i64 k, .slice a m c, .int .i64 k2, .slice a2 m2 c2] 29)) :=
        ((((alloc1 HBB.out).setCell (p := ⟨w.heap.size, 0, none⟩) (Nat.le_refl _) _).setCell (p := ⟨w.heap.size, 1, none⟩) (Nat.le_refl _) _).alloc (by simp; omega) _).alloc (by simp; omega) _
      have HF := hid (And.intro hfin hbz)
      clear hfin hbz hc5 h41 hbl ht2 hg2 hv2 p1 p2 p3 hblk
      go_wp2_with fail
      exact bodyPost_ret (v := .tuple #[.agg #[.int .i64 5, .slice (some ⟨w2.heap.size + 1, 0, none⟩) 2 2], .int .i64 ((l + 1 : Nat) : Int)]) (by simp [results, Try.results33, go_sem, q0, q1]) rfl (.inr ⟨_, _, _, _, _, _, _, HR.out, rfl, HF.out.1.1, HF.out.1.2, HF.out.2⟩)
    · have e41 : (((s[l]'hl).toNat : Int) == 41) = false := by rw [hc5]; simp; omega
      have e41n : (((s[l]'hl).toNat : Int) != 41) = true := by rw [hc5]; simp; omega
      have HR := hid (show prs s (d + 1) i = none by rw [HR2.out, hbl, if_neg h41])
      obtain ⟨g1, q0, q1, -⟩ := ps_none HBB.out (.int .i64 0) (.slice none 0 0) (Obj.cells #[.int .i64 k2, .slice a2 m2 c2] 29)
      have HF := hid g1
      clear g1 hc5 hbl h41
      go_wp2_with fail
      exact bodyPost_ret (v := .tuple #[.agg #[.int .i64 0, .slice none 0 0], .int .i64 (-1)]) (by simp [results, Try.results33, go_sem, q0, q1]) rfl (.inl ⟨HR.out, rfl, HF.out⟩)
  · have HR := hid (show prs s (d + 1) i = none by rw [HO.out, if_neg (by omega)])
    have e62 : (((s[j]'hj).toNat : Int) == 62) = false := by rw [hcc]; simp; omega
    have e42 : (((s[j]'hj).toNat : Int) == 42) = false := by rw [hcc]; simp; omega
    have e62n : (((s[j]'hj).toNat : Int) != 62) = true := by rw [hcc]; simp; omega
    have e42n : (((s[j]'hj).toNat : Int) != 42) = true := by rw [hcc]; simp; omega
    clear hcc h62 h42
    go_wp2_with fail
    refine (HIH.out (n - 1) s _ (j + 1) _ (by omega) (by omega) (by have := HN.out; omega) (by omega) hs).mono ?_
    rintro e w2 (⟨hr, rfl, hb2⟩ | ⟨u, l, k2, m2, a2, c2, fp2, hr, rfl, hat2, hf2, hb2⟩)
    · have hbb := HB1.out.trans ((HA.out.trans (hb2.mono HA.out.size)).mono HB1.out.size)
      obtain ⟨g1, q0, q1, r0, r1, rz, hM⟩ := ps_none hbb (.int .i64 0) (.slice none 0 0) (Obj.cells #[.int .i64 0, .slice none 0 0] 29)
      have HF := hid g1
      clear hr hb2 g1 hbb
      go_wp2_with fail
      exact bodyPost_ret (v := .tuple #[.agg #[.int .i64 0, .slice none 0 0], .int .i64 (-1)]) (by simp [results, Try.results33, go_sem, q0, q1]) rfl (.inl ⟨HR.out, rfl, HF.out⟩)
    · have hbb := HB1.out.trans ((HA.out.trans (hb2.mono HA.out.size)).mono HB1.out.size)
      obtain ⟨g1, q0, q1, r0, r1, rz, hM⟩ := ps_none hbb (.int .i64 0) (.slice none 0 0) (Obj.cells #[.int .i64 k2, .slice a2 m2 c2] 29)
      have HF := hid g1
      clear hr hb2 g1 hbb hat2 hf2
      go_wp2_with fail
      exact bodyPost_ret (v := .tuple #[.agg #[.int .i64 0, .slice none 0 0], .int .i64 (-1)]) (by simp [results, Try.results33, go_sem, q0, q1]) rfl (.inl ⟨HR.out, rfl, HF.out⟩)

theorem l1Parse_any : ∀ d : Nat, PsC d
  | 0 => l1Parse_zero
  | d + 1 => l1Parse_succ d (l1Parse_any d)

set_option maxHeartbeats 1000000 in
theorem specParseType (s : ByteArray) (w : World) (hs : s.size ≤ 1048576) : Calls Try.prog 14 #[.string s] w (MadeV w (prsT s) (prsOk s)) := by
  go_enter Try.func14, Try.ntmps14
  go_wp2_with fail
  refine (l1Parse_any 4 4 s 0 0 _ rfl (by omega) rfl (Nat.zero_le _) hs).mono ?_
  rintro e w1 (⟨hr, rfl, hb1⟩ | ⟨t, j, k, m, a, c, fp, hr, rfl, hat, hf, hb1⟩)
  · obtain ⟨g1, q0, q1, r0, r1, rz, hM⟩ := ps_none hb1 (.int .i64 0) (.slice none 0 0) (Obj.cells #[.int .i64 0, .slice none 0 0] 29)
    have HF := hid (madeV_zero g1)
    have HR := hid (prs_none hr)
    have hq : ((-1 : Int) == (s.size : Int)) = false := beq_false_of_ne (by omega)
    have hq2 : ((-1 : Int) != (s.size : Int)) = true := bne_iff_ne.2 (by omega)
    clear hr hb1 g1
    go_wp2_with fail
    refine bodyPost_ret (v := .tuple #[.agg #[.int .i64 0, .slice none 0 0], .bool false]) (by simp [results, Try.results14, go_sem, q0, q1]) rfl ?_
    rw [HR.out.1, HR.out.2]
    exact HF.out
  · by_cases hj : j = s.size
    · have hq : ((j : Int) == (s.size : Int)) = true := by simp [hj]
      have hq2 : ((j : Int) != (s.size : Int)) = false := by simp [hj]
      have HR := hid (prs_whole hr hj)
      obtain ⟨g1, q0, q1, r0, r1, rz, hM⟩ := ps_none hb1 (.int .i64 k) (.slice a m c) (Obj.cells #[.int .i64 k, .slice a m c] 29)
      have hne : ∀ x ∈ fp, x ≠ w.heap.size := fun x hx e => by have h1 := (hf.2 x hx).1; simp at h1; omega
      have hal : ∀ y : World, Below y.heap.size y (y.alloc (Obj.cells #[.int .i64 k, .slice a m c] 29)) := fun y => (Below.refl _ _).alloc (Nat.le_refl _) _
      have HT := hid (((hat.setCell (a := ⟨w.heap.size, 0, none⟩) hne (.int .i64 k)).setCell (a := ⟨w.heap.size, 1, none⟩) hne (.slice a m c)).below (hal _))
      have HF := hid (((hf.setCell (a := ⟨w.heap.size, 0, none⟩) hne (.int .i64 k)).setCell (a := ⟨w.heap.size, 1, none⟩) hne (.slice a m c)).below (hal _))
      have HB := hid g1
      subst hj
      clear hr hb1 hat hf hne g1 hal
      go_wp2_with fail
      refine bodyPost_ret (v := .tuple #[.agg #[.int .i64 k, .slice a m c], .bool true]) (by simp [results, Try.results14, go_sem, q0, q1]) rfl ?_
      rw [HR.out.1, HR.out.2]
      exact ⟨k, m, a, c, fp, rfl, HT.out, HF.out.mono (by simp), HB.out⟩
    · have hq : ((j : Int) == (s.size : Int)) = false := by simp; omega
      have hq2 : ((j : Int) != (s.size : Int)) = true := by simp; omega
      have HR := hid (prs_short hr hj)
      obtain ⟨g1, q0, q1, r0, r1, rz, hM⟩ := ps_none hb1 (.int .i64 0) (.slice none 0 0) (Obj.cells #[.int .i64 k, .slice a m c] 29)
      have HF := hid (madeV_zero g1)
      clear hr hb1 hat hf g1 hj
      go_wp2_with fail
      refine bodyPost_ret (v := .tuple #[.agg #[.int .i64 0, .slice none 0 0], .bool false]) (by simp [results, Try.results14, go_sem, q0, q1]) rfl ?_
      rw [HR.out.1, HR.out.2]
      exact HF.out
end Go.Proofs.Ytnpofpjaejnejaa

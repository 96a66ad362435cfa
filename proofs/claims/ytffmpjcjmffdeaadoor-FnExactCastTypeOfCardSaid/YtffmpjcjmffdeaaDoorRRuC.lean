/- ruleFor: selections, applications, choices; every kind. -/
import Derived.Test.YtffmpjcjmffdeaaDoorRRuA
import Derived.Test.YtffmpjcjmffdeaaDoorRRuB
import Derived.Test.YtffmpjcjmffdeaaDoorRG19
import Derived.Test.YtffmpjcjmffdeaaDoorRG1
namespace Go.Proofs.YtffmpjcjmffdeaaDoor
open Go.RowKit

theorem setCell_alloc {w : World} {P i : Nat} (o : Obj) (v : Value) (h : P < w.heap.size) : (w.alloc o).setCell ⟨P, i, none⟩ v = (w.setCell ⟨P, i, none⟩ v).alloc o := by
  simp only [World.setCell, World.alloc, World.mk.injEq, and_true]
  apply Array.ext_getElem?
  intro k
  simp only [Array.getElem?_modify, Array.getElem?_push, Array.size_modify]
  by_cases hk : P = k
  · subst hk
    have : ¬ P = w.heap.size := by omega
    simp [this]
  · by_cases hs : k = w.heap.size
    · have : ¬ P = w.heap.size := by omega
      simp [hs, this]
    · simp [hk, hs]

theorem put_alloc (o : Obj) {P : Nat} : ∀ (vs : List Value) (w : World) (i : Nat), P < w.heap.size → put (w.alloc o) P i vs = (put w P i vs).alloc o
  | [], _, _, _ => rfl
  | v :: vs, w, i, h => by
    rw [put, put, setCell_alloc o v h, put_alloc o vs _ _ (by rw [size_setCell]; exact h)]

/-- The rule of a selection, in a box of its own. -/
def SelX (Z : World) (A : List Nat) (t u : Ty) (q1 : Int) (r1 : Option Addr) (m1 d1 : Nat) (s : Value) (wx : World) : Prop :=
  ∃ b9 sa f, s = .pointer (some ⟨b9, 0, none⟩) ∧ wx.heap[b9]? = some (.cells #[.slice sa 1 1, .int .i64 q1, .slice r1 m1 d1] 135 (0, 0)) ∧ SlAt wx [.mk 5 [t, u]] (.slice sa 1 1) f ∧ SrcB A Z wx f ∧ b9 ∉ f ∧ Z.heap.size ≤ b9 ∧ Below Z.heap.size Z wx

theorem sel_a {Z y1 w2 : World} {A g : List Nat} {t u : Ty} {q1 : Int} {r1 a : Option Addr} {m1 d1 : Nat} (hy1 : y1 = (Z.alloc (Obj.cells #[.slice none 0 0, .int .i64 0, .slice none 0 0] 135)).drew) (hat : (Ty.mk 5 [t, u]).At w2 (.agg #[.int .i64 5, .slice a 2 2]) g) (hs : SrcB A y1 w2 g) (hA : ∀ b ∈ A, b < Z.heap.size) (hb : Below y1.heap.size y1 w2) :
    SelX Z A t u q1 r1 m1 d1 (.pointer (some ⟨Z.heap.size, 0, none⟩)) ((put w2 Z.heap.size 0 [.slice (some ⟨w2.heap.size, 0, none⟩) 1 1, .int .i64 q1, .slice r1 m1 d1]).alloc (Obj.cells #[.int .i64 5, .slice a 2 2] 32)) := by
  subst hy1
  have hz : (Z.alloc (Obj.cells #[.slice none 0 0, .int .i64 0, .slice none 0 0] 135)).drew.heap.size = Z.heap.size + 1 := by have h : (Z.alloc (Obj.cells #[.slice none 0 0, .int .i64 0, .slice none 0 0] 135)).heap.size = Z.heap.size + 1 := (by simp); exact h
  have hQ : w2.heap[Z.heap.size]? = some (Obj.cells #[.slice none 0 0, .int .i64 0, .slice none 0 0] 135) := (hb.block _ (by rw [hz]; omega)).trans (alloc_new Z _)
  have hl := lt_of_block hQ
  have hX : (put w2 Z.heap.size 0 [.slice (some ⟨w2.heap.size, 0, none⟩) 1 1, .int .i64 q1, .slice r1 m1 d1]).heap.size = w2.heap.size := size_put
  have hne : ∀ b ∈ g, b ≠ Z.heap.size := fun b hm => by
    rcases hs b hm with h | h
    · have := hA b h; omega
    · rw [hz] at h; omega
  have h2 : (put w2 Z.heap.size 0 [.slice (some ⟨w2.heap.size, 0, none⟩) 1 1, .int .i64 q1, .slice r1 m1 d1]).heap[Z.heap.size]? = some (.cells #[.slice (some ⟨w2.heap.size, 0, none⟩) 1 1, .int .i64 q1, .slice r1 m1 d1] 135 (0, 0)) := (heap_put hQ).trans (by simp only [putA, List.setIfInBounds_toArray, List.set])
  have hba := (Below.refl _ (put w2 Z.heap.size 0 [.slice (some ⟨w2.heap.size, 0, none⟩) 1 1, .int .i64 q1, .slice r1 m1 d1])).alloc (Nat.le_refl _) (Obj.cells #[.int .i64 5, .slice a 2 2] 32)
  have hsl := alloc_new (put w2 Z.heap.size 0 [.slice (some ⟨w2.heap.size, 0, none⟩) 1 1, .int .i64 q1, .slice r1 m1 d1]) (Obj.cells #[.int .i64 5, .slice a 2 2] 32)
  rw [hX] at hsl
  have hat2 := (hat.congr fun b hm i => (putB (w := w2) (P := Z.heap.size) (o := 0) (vs := [.slice (some ⟨w2.heap.size, 0, none⟩) 1 1, .int .i64 q1, .slice r1 m1 d1]) (hne b hm) i).1).below hba
  have hbz : Below Z.heap.size Z w2 := (((Below.refl Z.heap.size Z).alloc (Nat.le_refl _) (Obj.cells #[.slice none 0 0, .int .i64 0, .slice none 0 0] 135)).drew).trans (hb.mono (by rw [hz]; omega))
  refine ⟨Z.heap.size, _, _, rfl, (hba.block _ (by rw [hX]; exact hl)).trans h2, sl_one hsl hat2, ?_, ?_, Nat.le_refl _, (below_put hbz (Nat.le_refl _)).alloc (by rw [hX]; omega) _⟩
  · refine src_cons (by omega) (fun o => frozen_of_block hsl) fun b hm => ?_
    rcases hs b (by simpa using hm) with h | h
    · exact .inl h
    · refine .inr ⟨by rw [hz] at h; omega, fun o => ?_⟩
      have hm' : b ∈ g := by simpa using hm
      rw [hba.frozen (p := ⟨b, o, none⟩) (by rw [hX]; exact hat.lt b hm'), (putB (w := w2) (P := Z.heap.size) (o := 0) (vs := [.slice (some ⟨w2.heap.size, 0, none⟩) 1 1, .int .i64 q1, .slice r1 m1 d1]) (hne b hm') o).2]
      exact h.2 o
  · intro hm
    rcases List.mem_cons.1 hm with h | h
    · omega
    · exact hne _ (by simpa using h) rfl

theorem sel_b {Z w2 : World} {A g : List Nat} {t u : Ty} {q1 : Int} {r1 a : Option Addr} {m1 d1 : Nat} (hat : (Ty.mk 5 [t, u]).At w2 (.agg #[.int .i64 5, .slice a 2 2]) g) (hs : SrcB A Z.drew w2 g) (hb : Below Z.drew.heap.size Z.drew w2) :
    SelX Z A t u q1 r1 m1 d1 (.pointer (some ⟨w2.heap.size, 0, none⟩)) ((w2.alloc (Obj.cells #[.slice (some ⟨w2.heap.size + 1, 0, none⟩) 1 1, .int .i64 q1, .slice r1 m1 d1] 135)).alloc (Obj.cells #[.int .i64 5, .slice a 2 2] 32)) := by
  have hbz : Below Z.heap.size Z w2 := (below_drew Z).trans (hb.mono (below_drew Z).size)
  have hb1 := (Below.refl _ w2).alloc (Nat.le_refl _) (Obj.cells #[.slice (some ⟨w2.heap.size + 1, 0, none⟩) 1 1, .int .i64 q1, .slice r1 m1 d1] 135)
  have hb2 := hb1.alloc (by simp) (Obj.cells #[.int .i64 5, .slice a 2 2] 32)
  obtain ⟨f1, f2, f3⟩ := fin_a (y := w2) (Obj.cells #[.slice (some ⟨w2.heap.size + 1, 0, none⟩) 1 1, .int .i64 q1, .slice r1 m1 d1] 135) (Obj.cells #[.int .i64 5, .slice a 2 2] 32)
  have hlt := hat.lt
  have hs2 : SrcB A Z _ g := hs.later hlt hb2
  exact ⟨w2.heap.size, _, _, rfl, f1, sl_one f2 (hat.below hb2), src_cons (by have := hbz.size; omega) (fun o => frozen_of_block f2) (by simpa using hs2), fun hm => by
    rcases List.mem_cons.1 hm with h | h
    · omega
    · have := hlt _ (by simpa using h : _ ∈ g); omega, hbz.size, hbz.trans (hb2.mono hbz.size)⟩

theorem sel_c {Z w2 : World} {A g : List Nat} {t u : Ty} {q1 : Int} {r1 a : Option Addr} {m1 d1 : Nat} (hat : (Ty.mk 5 [t, u]).At w2 (.agg #[.int .i64 5, .slice a 2 2]) g) (hs : SrcB A Z.drew w2 g) (hb : Below Z.drew.heap.size Z.drew w2) :
    SelX Z A t u q1 r1 m1 d1 (.pointer (some ⟨w2.heap.size + 1, 0, none⟩)) ((w2.alloc (Obj.cells #[.int .i64 5, .slice a 2 2] 32)).alloc (Obj.cells #[.slice (some ⟨w2.heap.size, 0, none⟩) 1 1, .int .i64 q1, .slice r1 m1 d1] 135)) := by
  have hbz : Below Z.heap.size Z w2 := (below_drew Z).trans (hb.mono (below_drew Z).size)
  have hb1 := (Below.refl _ w2).alloc (Nat.le_refl _) (Obj.cells #[.int .i64 5, .slice a 2 2] 32)
  have hb2 := hb1.alloc (by simp) (Obj.cells #[.slice (some ⟨w2.heap.size, 0, none⟩) 1 1, .int .i64 q1, .slice r1 m1 d1] 135)
  obtain ⟨f1, f2, f3⟩ := fin_a (y := w2) (Obj.cells #[.int .i64 5, .slice a 2 2] 32) (Obj.cells #[.slice (some ⟨w2.heap.size, 0, none⟩) 1 1, .int .i64 q1, .slice r1 m1 d1] 135)
  have hlt := hat.lt
  have hs2 : SrcB A Z _ g := hs.later hlt hb2
  exact ⟨w2.heap.size + 1, _, _, rfl, f2, sl_one f1 (hat.below hb2), src_cons (by have := hbz.size; omega) (fun o => frozen_of_block f1) (by simpa using hs2), fun hm => by
    rcases List.mem_cons.1 hm with h | h
    · omega
    · have := hlt _ (by simpa using h : _ ∈ g); omega, by have := hbz.size; omega, hbz.trans (hb2.mono hbz.size)⟩

set_option maxRecDepth 100000 in
set_option maxHeartbeats 4000000 in
theorem selectRule_any (q : Int) (t : Ty) (v : Value) (fp : List Nat) (w : World) (hat : t.At w v fp) (hv : vld t = true) :
    Calls Tryd.prog 154 #[.int .i64 q, v] w (RuO fp w (if mtOk 5 t = true then some ([.mk 5 [mtOf 5 0 t, mtOf 5 1 t]], if q = 12 then mtOf 5 1 t else mtOf 5 0 t) else none)) := by
  obtain ⟨k, n, a, c, rfl⟩ := hat.agg
  have HA := hid hat.lt
  have HB := hid (show Below w.heap.size w ((w.alloc (Obj.cells #[.int .i64 k, .slice a n c] 32)).alloc (Obj.cells #[.slice none 0 0, .int .i64 0, .slice none 0 0] 135)) from ((Below.refl _ _).alloc (Nat.le_refl _) _).alloc (by simp) _)
  have HSZ := hid (show (((w.alloc (Obj.cells #[.int .i64 k, .slice a n c] 32)).alloc (Obj.cells #[.slice none 0 0, .int .i64 0, .slice none 0 0] 135))).heap.size = w.heap.size + 1 + 1 by simp)
  have HMP := hid (implMatchPair t _ fp ((w.alloc (Obj.cells #[.int .i64 k, .slice a n c] 32)).alloc (Obj.cells #[.slice none 0 0, .int .i64 0, .slice none 0 0] 135)) (hat.below HB.out) (shp_cnt8 hv (by omega)))
  have HO := hid (show ∀ b : Bool, mtOk 5 t = b → (if mtOk 5 t = true then some ([Ty.mk 5 [mtOf 5 0 t, mtOf 5 1 t]], if q = 12 then mtOf 5 1 t else mtOf 5 0 t) else none).isSome = b from fun b h => by subst h; cases mtOk 5 t <;> rfl)
  have HO2 := hid (show ∀ p, (if mtOk 5 t = true then some ([Ty.mk 5 [mtOf 5 0 t, mtOf 5 1 t]], if q = 12 then mtOf 5 1 t else mtOf 5 0 t) else none) = some p → p = ([Ty.mk 5 [mtOf 5 0 t, mtOf 5 1 t]], if q = 12 then mtOf 5 1 t else mtOf 5 0 t) from fun p h => by
    by_cases hm : mtOk 5 t = true
    · rw [if_pos hm] at h; cases h; rfl
    · rw [if_neg hm] at h; cases h)
  generalize (if mtOk 5 t = true then some ([Ty.mk 5 [mtOf 5 0 t, mtOf 5 1 t]], if q = 12 then mtOf 5 1 t else mtOf 5 0 t) else none) = OO at *
  generalize mtOf 5 0 t = T0 at *
  generalize mtOf 5 1 t = T1 at *
  clear hat hv
  go_enter Tryd.func154, Tryd.ntmps154
  go_wp2_with fail
  refine HMP.out.mono ?_
  rintro e w1 ⟨v1, v2, f1, f2, M, rfl, h1, h2, hf1, hf2, -, -, -, -, hb1⟩
  obtain ⟨q1, m1, r1, d1, rfl⟩ := h1.agg
  obtain ⟨q2, m2, r2, d2, rfl⟩ := h2.agg
  have hQ : w1.heap[w.heap.size + 1]? = some (Obj.cells #[.slice none 0 0, .int .i64 0, .slice none 0 0] 135) := (hb1.block _ (by simp)).trans (by have h := alloc_new (w.alloc (Obj.cells #[.int .i64 k, .slice a n c] 32)) (Obj.cells #[.slice none 0 0, .int .i64 0, .slice none 0 0] 135); simpa using h)
  obtain ⟨g1, g2, -⟩ := fin_a (y := w1) (Obj.cells #[.int .i64 q1, .slice r1 m1 d1] 32) (Obj.cells #[.int .i64 q2, .slice r2 m2 d2] 32)
  have hbz : Below w1.heap.size w1 ((w1.alloc (Obj.cells #[.int .i64 q1, .slice r1 m1 d1] 32)).alloc (Obj.cells #[.int .i64 q2, .slice r2 m2 d2] 32)) := ((Below.refl _ _).alloc (Nat.le_refl _) _).alloc (by simp) _
  have hZs : ((w1.alloc (Obj.cells #[.int .i64 q1, .slice r1 m1 d1] 32)).alloc (Obj.cells #[.int .i64 q2, .slice r2 m2 d2] 32)).heap.size = w1.heap.size + 1 + 1 := by simp
  have hS1 : w.heap.size + 1 + 1 ≤ w1.heap.size := by have := hb1.size; rw [HSZ.out] at this; exact this
  have HW := hid (below_trans (below_trans HB.out hb1) hbz)
  have HQ := hid ((hbz.block _ (lt_of_block hQ)).trans hQ)
  have H1 := hid (h1.below hbz)
  have H2 := hid (h2.below hbz)
  have HF := hid (And.intro (hf1.below hbz) (hf2.below hbz))
  have x0 : ((w1.alloc (Obj.cells #[.int .i64 q1, .slice r1 m1 d1] 32)).alloc (Obj.cells #[.int .i64 q2, .slice r2 m2 d2] 32)).cell? ⟨w1.heap.size, 0, none⟩ = some (.int .i64 q1) := by rw [cell_of_block g1]; rfl
  have x1 : ((w1.alloc (Obj.cells #[.int .i64 q1, .slice r1 m1 d1] 32)).alloc (Obj.cells #[.int .i64 q2, .slice r2 m2 d2] 32)).cell? ⟨w1.heap.size, 1, none⟩ = some (.slice r1 m1 d1) := by rw [cell_of_block g1]; rfl
  have y0 : ((w1.alloc (Obj.cells #[.int .i64 q1, .slice r1 m1 d1] 32)).alloc (Obj.cells #[.int .i64 q2, .slice r2 m2 d2] 32)).cell? ⟨w1.heap.size + 1, 0, none⟩ = some (.int .i64 q2) := by rw [cell_of_block g2]; rfl
  have y1 : ((w1.alloc (Obj.cells #[.int .i64 q1, .slice r1 m1 d1] 32)).alloc (Obj.cells #[.int .i64 q2, .slice r2 m2 d2] 32)).cell? ⟨w1.heap.size + 1, 1, none⟩ = some (.slice r2 m2 d2) := by rw [cell_of_block g2]; rfl
  have HFL := hid (show ∀ b ∈ f1 ++ f2, b < ((w1.alloc (Obj.cells #[.int .i64 q1, .slice r1 m1 d1] 32)).alloc (Obj.cells #[.int .i64 q2, .slice r2 m2 d2] 32)).heap.size from fun b hb => by
    rcases List.mem_append.1 hb with h | h
    · exact (h1.below hbz).lt b h
    · exact (h2.below hbz).lt b h)
  have HFG := hid (show ∀ b ∈ f1 ++ f2, w.heap.size + 1 + 1 ≤ b from fun b hb => by
    rcases List.mem_append.1 hb with h | h
    · have := (hf1.2 b h).1; rw [HSZ.out] at this; exact this
    · have := (hf2.2 b h).1; rw [HSZ.out] at this; exact this)
  obtain ⟨Z, hZd⟩ : ∃ Z, Z = (w1.alloc (Obj.cells #[.int .i64 q1, .slice r1 m1 d1] 32)).alloc (Obj.cells #[.int .i64 q2, .slice r2 m2 d2] 32) := ⟨_, rfl⟩
  rw [← hZd] at x0 x1 y0 y1 hZs HW HQ H1 H2 HF HFL
  have HZS := hid hZs
  have HS1 := hid hS1
  clear h1 h2 hf1 hf2 hb1 hQ g1 g2 hbz hZs hS1
  go_wp2_with fail
  rw [← hZd]
  clear hZd
  go_cut [9] (fun s9 wx => SelX Z (f1 ++ f2) T0 T1 q1 r1 m1 d1 s9 wx)
  case first =>
    go_region_held3 (fun w' => Below Z.heap.size Z w' ∧ w'.cell? ⟨w1.heap.size, 0, none⟩ = some (.int .i64 q1) ∧ w'.cell? ⟨w1.heap.size, 1, none⟩ = some (.slice r1 m1 d1) ∧ w'.cell? ⟨w1.heap.size + 1, 0, none⟩ = some (.int .i64 q2) ∧ w'.cell? ⟨w1.heap.size + 1, 1, none⟩ = some (.slice r2 m2 d2))
      ((refine (fun hB => ⟨hB, cell_keep x0 hB, cell_keep x1 hB, cell_keep y0 hB, cell_keep y1 hB⟩ : Below Z.heap.size Z _ → _) ?_; (first | with_reducible exact below_drew Z | with_reducible exact hk2 | (go_split_ands; first | with_reducible exact Below.alloc (by with_reducible assumption) (Below.size (by with_reducible assumption)) _ | exact (((hk2.setCell (p := ⟨Z.heap.size, 0, none⟩) (Nat.le_refl _) _).setCell (p := ⟨Z.heap.size, 1, none⟩) (Nat.le_refl _) _).setCell (p := ⟨Z.heap.size, 2, none⟩) (Nat.le_refl _) _).alloc (by rw [size_setCell, size_setCell, size_setCell]; exact hk2.size) _ | exact Below.alloc (by with_reducible assumption) (Below.size (by with_reducible assumption)) _ | exact (hk2.alloc hk2.size _).alloc (by have := hk2.size; simp; omega) _))))
      (first | (go_at_call 152; go_split_ands; refine (twoPart_any 5 T0 T1 _ _ _ _ _ _ _ _ _ _ _ (H1.out.below (by assumption)) (H2.out.below (by assumption))).mono ?_; rintro e y2 ⟨a5, g5, rfl, hat5, hsub5, hy2⟩; have hk2 : Below Z.heap.size Z y2 := below_trans (by assumption) hy2; (first | (have Q3 : y2.heap[Z.heap.size]? = some (Obj.cells #[.slice none 0 0, .int .i64 0, .slice none 0 0] 135) := (hy2.block Z.heap.size (by first | (show Z.heap.size < (Z.alloc _).heap.size; simp) | simp)).trans (alloc_new Z _); have f0 := (fun o => frozen_of_block (o := o) Q3); have d0 : y2.cell? ⟨Z.heap.size, 0, none⟩ = some (.slice none 0 0) := (by rw [cell_of_block Q3]; rfl); have d1' : y2.cell? ⟨Z.heap.size, 1, none⟩ = some (.int .i64 0) := (by rw [cell_of_block Q3]; rfl); have d2' : y2.cell? ⟨Z.heap.size, 2, none⟩ = some (.slice none 0 0) := (by rw [cell_of_block Q3]; rfl); have hl3 := lt_of_block Q3) | skip)))
    all_goals
      repeat (rename (World.cell? _ _ = some _) => hq; clear hq)
      go_wp2_with fail
      go_meet
      first
        | with_reducible exact sel_b hat5 hsub5 hy2
        | with_reducible exact sel_c hat5 hsub5 hy2
        | (have FA := sel_a (q1 := q1) (r1 := r1) (m1 := m1) (d1 := d1) rfl hat5 hsub5 HFL.out hy2; simp only [put, Nat.zero_add, Nat.reduceAdd] at FA; exact FA)
  case rest =>
  obtain ⟨b9, sa, f9, rfl, hb9, hsl, hsrc, hnin, hge, hbc⟩ := hcut
  have e0 : wc.cell? ⟨b9, 0, none⟩ = some (.slice sa 1 1) := by rw [cell_of_block hb9]; rfl
  have e1 : wc.cell? ⟨b9, 1, none⟩ = some (.int .i64 q1) := by rw [cell_of_block hb9]; rfl
  have e2 : wc.cell? ⟨b9, 2, none⟩ = some (.slice r1 m1 d1) := by rw [cell_of_block hb9]; rfl
  have ez := fun o => frozen_of_block (o := o) hb9
  have el : b9 < wc.heap.size := lt_of_block hb9
  replace x0 := cell_keep x0 hbc
  replace x1 := cell_keep x1 hbc
  replace y0 := cell_keep y0 hbc
  replace y1 := cell_keep y1 hbc
  have hQc : wc.heap[w.heap.size + 1]? = some (Obj.cells #[.slice none 0 0, .int .i64 0, .slice none 0 0] 135) := (hbc.block _ (lt_of_block HQ.out)).trans HQ.out
  have r0 : wc.cell? ⟨w.heap.size + 1, 0, none⟩ = some (.slice none 0 0) := by rw [cell_of_block hQc]; rfl
  have r1' : wc.cell? ⟨w.heap.size + 1, 1, none⟩ = some (.int .i64 0) := by rw [cell_of_block hQc]; rfl
  have r2' : wc.cell? ⟨w.heap.size + 1, 2, none⟩ = some (.slice none 0 0) := by rw [cell_of_block hQc]; rfl
  have rz := fun o => frozen_of_block (o := o) hQc
  have rl : w.heap.size + 1 < wc.heap.size := lt_of_block hQc
  have hne9 : b9 ≠ w.heap.size + 1 := by have := HZS.out; have := HS1.out; omega
  have hltf : ∀ b ∈ f1 ++ f2, b < b9 := fun b hb => by have := HFL.out b hb; omega
  have hP : ∀ b ∈ f9 ++ (f1 ++ f2), w.heap.size + 1 < b ∧ b ≠ b9 ∧ ∀ o, wc.frozen? ⟨b, o, none⟩ = false := fun b hb => by
    have hg : ∀ b ∈ f1 ++ f2, w.heap.size + 1 < b ∧ ∀ o, wc.frozen? ⟨b, o, none⟩ = false := fun b hb => ⟨HFG.out b hb, fun o => by
      rw [hbc.frozen (p := ⟨b, o, none⟩) (HFL.out b hb)]
      rcases List.mem_append.1 hb with h | h
      · exact (HF.out.1.2 b h).2.2 o
      · exact (HF.out.2.2 b h).2.2 o⟩
    rcases List.mem_append.1 hb with h | h
    · have hh : w.heap.size + 1 < b ∧ ∀ o, wc.frozen? ⟨b, o, none⟩ = false := by
        rcases hsrc b h with h' | h'
        · exact hg b h'
        · exact ⟨by have := HZS.out; have := HS1.out; omega, h'.2⟩
      exact ⟨hh.1, fun e => hnin (e ▸ h), hh.2⟩
    · exact ⟨(hg b h).1, Nat.ne_of_lt (hltf b h), (hg b h).2⟩
  have HPP := hid hP
  have hbw : Below w.heap.size w wc := below_trans HW.out hbc
  have HX1 := hid (show ∀ b ∈ f1, b ∈ f9 ++ (f1 ++ f2) from fun b hb => by simp [hb])
  have HX2 := hid (show ∀ b ∈ f2, b ∈ f9 ++ (f1 ++ f2) from fun b hb => by simp [hb])
  by_cases hq : q = 12
  · subst hq
    have FIN := hid (RuO.stored (A := fp) (w := w) (X := (wc.setCell ⟨b9, 1, none⟩ (.int .i64 q2)).setCell ⟨b9, 2, none⟩ (.slice r2 m2 d2)) (P := w.heap.size + 1) (HO.out _ rfl)
      ((hsl.setCell (fun b hb => (hP b (by simp [hb])).2.1) _).setCell (fun b hb => (hP b (by simp [hb])).2.1) _)
      (((H2.out.below hbc).setCell (fun b hb => (hP b (HX2.out b hb)).2.1) _).setCell (fun b hb => (hP b (HX2.out b hb)).2.1) _)
      (fun p h => (HO2.out p h).trans (by rw [if_pos rfl])) (fun b hb => .inr ⟨(hP b (by rcases List.mem_append.1 hb with h | h; simp [h]; exact HX2.out b h)).1, fun o => by
        have h3 := hP b (by rcases List.mem_append.1 hb with h | h; simp [h]; exact HX2.out b h)
        rw [frozen_setCell_ne _ _ _ b o h3.2.1, frozen_setCell_ne _ _ _ b o h3.2.1]
        exact h3.2.2 o⟩) HA.out ((hbw.setCell (p := ⟨b9, 1, none⟩) (by have := HZS.out; have := HS1.out; show w.heap.size ≤ b9; omega) _).setCell (p := ⟨b9, 2, none⟩) (by have := HZS.out; have := HS1.out; show w.heap.size ≤ b9; omega) _) (by omega))
    simp only [put, Nat.zero_add, Nat.reduceAdd] at FIN
    generalize mtOk 5 t = bb at *
    clear hb9 hsl hsrc hnin hge hbc hQc hltf hP HPP hbw HX1 HX2 HO HO2 HFL HFG HF H1 H2 HW HQ HB HSZ HS1 HZS HA
    go_wp2_with fail
    exact bodyPost_ret (v := .tuple #[.agg #[.slice sa 1 1, .int .i64 q2, .slice r2 m2 d2], .bool bb]) (by simp [results, Tryd.results154, go_sem, r0, r1', r2']) rfl FIN.out
  · have hq1 : (q == 12) = false := by simpa using hq
    have FIN := hid (RuO.stored (A := fp) (w := w) (X := wc) (P := w.heap.size + 1) (HO.out _ rfl) hsl (H1.out.below hbc)
      (fun p h => (HO2.out p h).trans (by rw [if_neg hq])) (fun b hb => .inr ((fun h3 => ⟨h3.1, h3.2.2⟩ : _ → _) (hP b (by rcases List.mem_append.1 hb with h | h; simp [h]; exact HX1.out b h)))) HA.out hbw (by omega))
    simp only [put, Nat.zero_add, Nat.reduceAdd] at FIN
    generalize mtOk 5 t = bb at *
    clear hb9 hsl hsrc hnin hge hbc hQc hltf hP HPP hbw HX1 HX2 HO HO2 HFL HFG HF H1 H2 HW HQ HB HSZ HS1 HZS HA hq
    go_wp2_with fail
    exact bodyPost_ret (v := .tuple #[.agg #[.slice sa 1 1, .int .i64 q1, .slice r1 m1 d1], .bool bb]) (by simp [results, Tryd.results154, go_sem, r0, r1', r2']) rfl FIN.out
end Go.Proofs.YtffmpjcjmffdeaaDoor

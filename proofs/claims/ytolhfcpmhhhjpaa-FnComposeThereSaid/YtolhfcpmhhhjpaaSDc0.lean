/- Draws: DrawCoerceOf. -/
import Derived.Test.YtolhfcpmhhhjpaaSDr8
import Derived.Test.YtolhfcpmhhhjpaaSG1
namespace Go.Proofs.Ytolhfcpmhhhjpaa
open Go.RowKit

/-- What a draw of two types and a label says. -/
def ThreeL (w : World) (e : Ending) (w' : World) : Prop := ∃ t u v1 v2 f1 f2, ∃ l : Int, e = .returned (.tuple #[v1, v2, .int .i64 l]) ∧ SmallX t u ∧ (-100 ≤ l ∧ l ≤ 100) ∧ t.At w' v1 f1 ∧ u.At w' v2 f2 ∧ (∀ b ∈ f1, w.heap.size ≤ b ∧ ∀ o, w'.frozen? ⟨b, o, none⟩ = false) ∧ (∀ b ∈ f2, w.heap.size ≤ b ∧ ∀ o, w'.frozen? ⟨b, o, none⟩ = false) ∧ Below w.heap.size w w'

theorem Above.drewB {lo : Nat} {a w : World} (h : Above lo a w) : Above lo a w.drew := ⟨h.size, fun k h1 h2 => h.block k h1 h2⟩
theorem Above.allocA {lo : Nat} {a w : World} (h : Above lo a w) (o : Obj) : Above lo a (w.alloc o) := ⟨Nat.le_trans h.size (by simp), fun k h1 h2 => (Below.heap_alloc _ _ _ (Nat.lt_of_lt_of_le h2 h.size)).trans (h.block k h1 h2)⟩
theorem Above.cellA {lo : Nat} {a w : World} (h : Above lo a w) {b o : Nat} {u : Value} (hc : a.cell? ⟨b, o, none⟩ = some u) (hb : lo ≤ b) : w.cell? ⟨b, o, none⟩ = some u :=
  (World.cell?_of_block (w := a) (a := ⟨b, o, none⟩) (h.block b hb (World.block_lt_of_cell? _ _ hc))).trans hc

theorem belowDrew {B : Nat} {a w : World} (h : Below B a w) (hB : B ≤ a.heap.size) : Below B a w.drew := h.trans ((below_drew w).mono (Nat.le_trans hB h.size))
theorem threeL_mk {w W2 W : World} {t u : Ty} {v1 v2 : Value} {f1 f2 : List Nat} {l : Int} {x : Value} {lo : Nat} (hx : x = .int .i64 l) (hP : SmallX t u) (h1 : t.At W2 v1 f1) (h2 : u.At W2 v2 f2) (z1 : ∀ b ∈ f1, ∀ o, W2.frozen? ⟨b, o, none⟩ = false) (z2 : ∀ b ∈ f2, ∀ o, W2.frozen? ⟨b, o, none⟩ = false) (g1 : ∀ b ∈ f1, lo ≤ b) (g2 : ∀ b ∈ f2, lo ≤ b) (hlo : w.heap.size ≤ lo) (hl : -100 ≤ l ∧ l ≤ 100) (hA : Above lo W2 W) (hb : Below w.heap.size w W) :
    ThreeL w (.returned (.tuple #[v1, v2, x])) W :=
  ⟨t, u, _, _, f1, f2, l, by rw [hx], hP, hl, h1.above hA g1, h2.above hA g2, fun b hb' => ⟨Nat.le_trans hlo (g1 b hb'), fun o => (World.frozen?_of_block (w := W2) (a := ⟨b, o, none⟩) (hA.block b (g1 b hb') (h1.lt b hb'))).trans (z1 b hb' o)⟩, fun b hb' => ⟨Nat.le_trans hlo (g2 b hb'), fun o => (World.frozen?_of_block (w := W2) (a := ⟨b, o, none⟩) (hA.block b (g2 b hb') (h2.lt b hb'))).trans (z2 b hb' o)⟩, hb⟩

set_option linter.unusedVariables false in
set_option linter.unusedSimpArgs false in
set_option maxRecDepth 100000 in
set_option maxHeartbeats 8000000 in
theorem drawCo_any (a : Option Addr) (n cap : Nat) (w : World) (hB : BytA w a n) (hn : n ≤ cap) (hm : cap ≤ maxLen) : Calls Try.prog 13 #[.slice a n cap] w (ThreeL w) := by
  have hbA : Below w.heap.size w ((w.alloc (Obj.cells #[.int .i64 0, .slice none 0 0] 25)).alloc (Obj.cells #[.int .i64 0, .slice none 0 0] 25)) := ((Below.refl _ _).alloc (Nat.le_refl _) _).alloc (by simp) _
  have hsz : ((w.alloc (Obj.cells #[.int .i64 0, .slice none 0 0] 25)).alloc (Obj.cells #[.int .i64 0, .slice none 0 0] 25)).heap.size = w.heap.size + 1 + 1 := by simp
  have HO := hid (drawCon_any a n cap ((w.alloc (Obj.cells #[.int .i64 0, .slice none 0 0] 25)).alloc (Obj.cells #[.int .i64 0, .slice none 0 0] 25)) (hB.below hbA) hn hm)
  obtain ⟨hE0, hE1⟩ := two9 (Below.refl ((w.alloc (Obj.cells #[.int .i64 0, .slice none 0 0] 25)).alloc (Obj.cells #[.int .i64 0, .slice none 0 0] 25)).heap.size ((w.alloc (Obj.cells #[.int .i64 0, .slice none 0 0] 25)).alloc (Obj.cells #[.int .i64 0, .slice none 0 0] 25)))
  have HMX := hid (show n ≤ 9223372036854775807 by unfold maxLen at hm; omega)
  clear hB
  go_enter Try.func13, Try.ntmps13
  go_upto_region 1 with (fail)
  generalize ((w.alloc (Obj.cells #[.int .i64 0, .slice none 0 0] 25)).alloc (Obj.cells #[.int .i64 0, .slice none 0 0] 25)) = WA at HO hbA hsz hE0 hE1 ⊢
  go_wp2_with fail
  refine HO.out.mono ?_
  rintro e w1 ⟨t, u, v1, v2, f1, f2, rfl, hP, h1, h2, m1, m2, hb1⟩
  obtain ⟨k1, n1, a1, c1, rfl⟩ := h1.agg
  obtain ⟨k2, n2, a2, c2, rfl⟩ := h2.agg
  have hal : Below w1.heap.size w1 ((w1.alloc (Obj.cells #[.int .i64 k1, .slice a1 n1 c1] 25)).alloc (Obj.cells #[.int .i64 k2, .slice a2 n2 c2] 25)) := ((Below.refl _ _).alloc (Nat.le_refl _) _).alloc (by simp) _
  obtain ⟨hO1, hO2⟩ := two9 (Below.refl ((w1.alloc (Obj.cells #[.int .i64 k1, .slice a1 n1 c1] 25)).alloc (Obj.cells #[.int .i64 k2, .slice a2 n2 c2] 25)).heap.size ((w1.alloc (Obj.cells #[.int .i64 k1, .slice a1 n1 c1] 25)).alloc (Obj.cells #[.int .i64 k2, .slice a2 n2 c2] 25)))
  replace hE0 := (hal.block _ (by have := hb1.size; omega)).trans ((hb1.block _ (by omega)).trans hE0)
  replace hE1 := (hal.block _ (by have := hb1.size; omega)).trans ((hb1.block _ (by omega)).trans hE1)
  have hbw := (hbA.trans (hb1.mono (by omega))).trans (hal.mono (by have := hb1.size; omega))
  have hO : w.heap.size + 1 + 1 ≤ w1.heap.size := by have := hb1.size; omega
  have hs2 : ((w1.alloc (Obj.cells #[.int .i64 k1, .slice a1 n1 c1] 25)).alloc (Obj.cells #[.int .i64 k2, .slice a2 n2 c2] 25)).heap.size = w1.heap.size + 1 + 1 := by simp
  have q1 := h1.below hal
  have q2 := h2.below hal
  have z1 : ∀ b ∈ f1, ∀ o, ((w1.alloc (Obj.cells #[.int .i64 k1, .slice a1 n1 c1] 25)).alloc (Obj.cells #[.int .i64 k2, .slice a2 n2 c2] 25)).frozen? ⟨b, o, none⟩ = false := fun b hb o => (hal.frozen (p := ⟨b, o, none⟩) (h1.lt b hb)).trans ((m1 b hb).2 o)
  have z2 : ∀ b ∈ f2, ∀ o, ((w1.alloc (Obj.cells #[.int .i64 k1, .slice a1 n1 c1] 25)).alloc (Obj.cells #[.int .i64 k2, .slice a2 n2 c2] 25)).frozen? ⟨b, o, none⟩ = false := fun b hb o => (hal.frozen (p := ⟨b, o, none⟩) (h2.lt b hb)).trans ((m2 b hb).2 o)
  have g1 : ∀ b ∈ f1, w.heap.size + 1 + 1 ≤ b := fun b hb => by have := (m1 b hb).1; omega
  have g2 : ∀ b ∈ f2, w.heap.size + 1 + 1 ≤ b := fun b hb => by have := (m2 b hb).1; omega
  clear h1 h2 m1 m2 hb1 hbA HO
  go_upto_region 2 with (fail)
  generalize ((w1.alloc (Obj.cells #[.int .i64 k1, .slice a1 n1 c1] 25)).alloc (Obj.cells #[.int .i64 k2, .slice a2 n2 c2] 25)) = W2 at hO1 hO2 hE0 hE1 hbw hs2 q1 q2 z1 z2 ⊢
  generalize w1.heap.size = O at hO hO1 hO2 hs2 ⊢
  clear hal
  have HFIN := hid (fun (l : Int) (x : Value) (hx : x = .int .i64 l) (hl : -100 ≤ l ∧ l ≤ 100) (W : World) (hA : Above (w.heap.size + 1 + 1) W2 W) (hb : Below w.heap.size w W) => threeL_mk (l := l) hx hP q1 q2 z1 z2 g1 g2 (by omega) hl hA hb)
  have HBW := hid hbw
  have HS := hid (fun (W : World) (h : Above (w.heap.size + 1 + 1) W2 W) => (show W.cell? ⟨O, 0, none⟩ = some (.int .i64 k1) ∧ W.cell? ⟨O, 1, none⟩ = some (.slice a1 n1 c1) ∧ W.cell? ⟨O + 1, 0, none⟩ = some (.int .i64 k2) ∧ W.cell? ⟨O + 1, 1, none⟩ = some (.slice a2 n2 c2) from
    ⟨h.cellA (by rw [cell_of_block hO1]; rfl) (by omega), h.cellA (by rw [cell_of_block hO1]; rfl) (by omega), h.cellA (by rw [cell_of_block hO2]; rfl) (by omega), h.cellA (by rw [cell_of_block hO2]; rfl) (by omega)⟩))
  have y0 : W2.cell? ⟨w.heap.size, 0, none⟩ = some (.int .i64 0) := by show W2.cell? _ = _; rw [cell_of_block hE0]; rfl
  have y1 : W2.cell? ⟨w.heap.size, 1, none⟩ = some (.slice none 0 0) := by show W2.cell? _ = _; rw [cell_of_block hE0]; rfl
  have y2 : W2.cell? ⟨w.heap.size + 1, 0, none⟩ = some (.int .i64 0) := by show W2.cell? _ = _; rw [cell_of_block hE1]; rfl
  have y3 : W2.cell? ⟨w.heap.size + 1, 1, none⟩ = some (.slice none 0 0) := by show W2.cell? _ = _; rw [cell_of_block hE1]; rfl
  have yz : ∀ o, W2.frozen? ⟨w.heap.size, o, none⟩ = false := fun o => frozen_of_block (o := o) hE0
  have yz2 : ∀ o, W2.frozen? ⟨w.heap.size + 1, o, none⟩ = false := fun o => frozen_of_block (o := o) hE1
  have hlt1 : w.heap.size < W2.heap.size := lt_of_block hE0
  have hlt2 : w.heap.size + 1 < W2.heap.size := lt_of_block hE1
  have yb0 : (W2.alloc (Obj.cells #[.int .i64 1, .int .i64 7, .int .i64 (-3), .int .i64 99, .int .i64 0, .int .i64 100] 3)).cell? ⟨w.heap.size, 0, none⟩ = some (.int .i64 0) := by
    have q : W2.cell? _ = _ := y0
    show (W2.alloc (Obj.cells #[.int .i64 1, .int .i64 7, .int .i64 (-3), .int .i64 99, .int .i64 0, .int .i64 100] 3)).cell? _ = _
    exact cell_keep q ((Below.refl W2.heap.size W2).alloc (Nat.le_refl _) (Obj.cells #[.int .i64 1, .int .i64 7, .int .i64 (-3), .int .i64 99, .int .i64 0, .int .i64 100] 3))
  have yb1 : (W2.alloc (Obj.cells #[.int .i64 1, .int .i64 7, .int .i64 (-3), .int .i64 99, .int .i64 0, .int .i64 100] 3)).cell? ⟨w.heap.size, 1, none⟩ = some (.slice none 0 0) := by
    have q : W2.cell? _ = _ := y1
    show (W2.alloc (Obj.cells #[.int .i64 1, .int .i64 7, .int .i64 (-3), .int .i64 99, .int .i64 0, .int .i64 100] 3)).cell? _ = _
    exact cell_keep q ((Below.refl W2.heap.size W2).alloc (Nat.le_refl _) (Obj.cells #[.int .i64 1, .int .i64 7, .int .i64 (-3), .int .i64 99, .int .i64 0, .int .i64 100] 3))
  have yb2 : (W2.alloc (Obj.cells #[.int .i64 1, .int .i64 7, .int .i64 (-3), .int .i64 99, .int .i64 0, .int .i64 100] 3)).cell? ⟨w.heap.size + 1, 0, none⟩ = some (.int .i64 0) := by
    have q : W2.cell? _ = _ := y2
    show (W2.alloc (Obj.cells #[.int .i64 1, .int .i64 7, .int .i64 (-3), .int .i64 99, .int .i64 0, .int .i64 100] 3)).cell? _ = _
    exact cell_keep q ((Below.refl W2.heap.size W2).alloc (Nat.le_refl _) (Obj.cells #[.int .i64 1, .int .i64 7, .int .i64 (-3), .int .i64 99, .int .i64 0, .int .i64 100] 3))
  have yb3 : (W2.alloc (Obj.cells #[.int .i64 1, .int .i64 7, .int .i64 (-3), .int .i64 99, .int .i64 0, .int .i64 100] 3)).cell? ⟨w.heap.size + 1, 1, none⟩ = some (.slice none 0 0) := by
    have q : W2.cell? _ = _ := y3
    show (W2.alloc (Obj.cells #[.int .i64 1, .int .i64 7, .int .i64 (-3), .int .i64 99, .int .i64 0, .int .i64 100] 3)).cell? _ = _
    exact cell_keep q ((Below.refl W2.heap.size W2).alloc (Nat.le_refl _) (Obj.cells #[.int .i64 1, .int .i64 7, .int .i64 (-3), .int .i64 99, .int .i64 0, .int .i64 100] 3))
  have ybz : ∀ o, (W2.alloc (Obj.cells #[.int .i64 1, .int .i64 7, .int .i64 (-3), .int .i64 99, .int .i64 0, .int .i64 100] 3)).frozen? ⟨w.heap.size, o, none⟩ = false := fun o => frozen_of_block (o := o) (((Below.refl W2.heap.size W2).alloc (Nat.le_refl _) (Obj.cells #[.int .i64 1, .int .i64 7, .int .i64 (-3), .int .i64 99, .int .i64 0, .int .i64 100] 3)).block _ (lt_of_block hE0) |>.trans hE0)
  have ybz2 : ∀ o, (W2.alloc (Obj.cells #[.int .i64 1, .int .i64 7, .int .i64 (-3), .int .i64 99, .int .i64 0, .int .i64 100] 3)).frozen? ⟨w.heap.size + 1, o, none⟩ = false := fun o => frozen_of_block (o := o) (((Below.refl W2.heap.size W2).alloc (Nat.le_refl _) (Obj.cells #[.int .i64 1, .int .i64 7, .int .i64 (-3), .int .i64 99, .int .i64 0, .int .i64 100] 3)).block _ (lt_of_block hE1) |>.trans hE1)
  have hltb1 : w.heap.size < (W2.alloc (Obj.cells #[.int .i64 1, .int .i64 7, .int .i64 (-3), .int .i64 99, .int .i64 0, .int .i64 100] 3)).heap.size := by simp; omega
  have hltb2 : w.heap.size + 1 < (W2.alloc (Obj.cells #[.int .i64 1, .int .i64 7, .int .i64 (-3), .int .i64 99, .int .i64 0, .int .i64 100] 3)).heap.size := by simp; omega
  have oth : ∀ {W : World} {b o b' : Nat} {u v : Value}, W.cell? ⟨b', o, none⟩ = some v → b' ≠ b → ∀ o', (W.setCell ⟨b, o', none⟩ u).cell? ⟨b', o, none⟩ = some v := fun {W} {b} {o} {b'} {u} {v} h hn o' => (World.cell?_of_block (w := W) (a := ⟨b', o, none⟩) (Below.heap_setCell W ⟨b, o', none⟩ u b' hn)).trans h
  have ca : ∀ {W : World} {b o : Nat} {v : Value}, W.cell? ⟨b, o, none⟩ = some v → (W.alloc (Obj.cells #[.int .i64 1, .int .i64 7, .int .i64 (-3), .int .i64 99, .int .i64 0, .int .i64 100] 3)).cell? ⟨b, o, none⟩ = some v := fun h => cell_keep h ((Below.refl _ _).alloc (Nat.le_refl _) _)
  have d0 : ((W2.setCell ⟨w.heap.size, 0, none⟩ (.int .i64 k1)).setCell ⟨w.heap.size, 1, none⟩ (.slice a1 n1 c1)).cell? ⟨w.heap.size, 0, none⟩ = some (.int .i64 k1) := (cell_setCell_other (by simp) _).trans (cell_setCell_self y0 _)
  have d1 : ((W2.setCell ⟨w.heap.size, 0, none⟩ (.int .i64 k1)).setCell ⟨w.heap.size, 1, none⟩ (.slice a1 n1 c1)).cell? ⟨w.heap.size, 1, none⟩ = some (.slice a1 n1 c1) := cell_setCell_self ((cell_setCell_other (by simp) _).trans y1) _
  have d2 : ((W2.setCell ⟨w.heap.size, 0, none⟩ (.int .i64 k1)).setCell ⟨w.heap.size, 1, none⟩ (.slice a1 n1 c1)).cell? ⟨w.heap.size + 1, 0, none⟩ = some (.int .i64 0) := oth (oth y2 (by omega) _) (by omega) _
  have d3 : ((W2.setCell ⟨w.heap.size, 0, none⟩ (.int .i64 k1)).setCell ⟨w.heap.size, 1, none⟩ (.slice a1 n1 c1)).cell? ⟨w.heap.size + 1, 1, none⟩ = some (.slice none 0 0) := oth (oth y3 (by omega) _) (by omega) _
  have yc0 := ca d0
  have yc1 := ca d1
  have yc2 := ca d2
  have yc3 := ca d3
  have yd0 : (((((W2.setCell ⟨w.heap.size, 0, none⟩ (.int .i64 k1)).setCell ⟨w.heap.size, 1, none⟩ (.slice a1 n1 c1)).setCell ⟨w.heap.size + 1, 0, none⟩ (.int .i64 k2)).setCell ⟨w.heap.size + 1, 1, none⟩ (.slice a2 n2 c2)).alloc (Obj.cells #[.int .i64 1, .int .i64 7, .int .i64 (-3), .int .i64 99, .int .i64 0, .int .i64 100] 3)).cell? ⟨w.heap.size, 0, none⟩ = some (.int .i64 k1) := ca (oth (oth d0 (by omega) _) (by omega) _)
  have yd1 : (((((W2.setCell ⟨w.heap.size, 0, none⟩ (.int .i64 k1)).setCell ⟨w.heap.size, 1, none⟩ (.slice a1 n1 c1)).setCell ⟨w.heap.size + 1, 0, none⟩ (.int .i64 k2)).setCell ⟨w.heap.size + 1, 1, none⟩ (.slice a2 n2 c2)).alloc (Obj.cells #[.int .i64 1, .int .i64 7, .int .i64 (-3), .int .i64 99, .int .i64 0, .int .i64 100] 3)).cell? ⟨w.heap.size, 1, none⟩ = some (.slice a1 n1 c1) := ca (oth (oth d1 (by omega) _) (by omega) _)
  have yd2 : (((((W2.setCell ⟨w.heap.size, 0, none⟩ (.int .i64 k1)).setCell ⟨w.heap.size, 1, none⟩ (.slice a1 n1 c1)).setCell ⟨w.heap.size + 1, 0, none⟩ (.int .i64 k2)).setCell ⟨w.heap.size + 1, 1, none⟩ (.slice a2 n2 c2)).alloc (Obj.cells #[.int .i64 1, .int .i64 7, .int .i64 (-3), .int .i64 99, .int .i64 0, .int .i64 100] 3)).cell? ⟨w.heap.size + 1, 0, none⟩ = some (.int .i64 k2) := ca ((cell_setCell_other (by simp) _).trans (cell_setCell_self d2 _))
  have yd3 : (((((W2.setCell ⟨w.heap.size, 0, none⟩ (.int .i64 k1)).setCell ⟨w.heap.size, 1, none⟩ (.slice a1 n1 c1)).setCell ⟨w.heap.size + 1, 0, none⟩ (.int .i64 k2)).setCell ⟨w.heap.size + 1, 1, none⟩ (.slice a2 n2 c2)).alloc (Obj.cells #[.int .i64 1, .int .i64 7, .int .i64 (-3), .int .i64 99, .int .i64 0, .int .i64 100] 3)).cell? ⟨w.heap.size + 1, 1, none⟩ = some (.slice a2 n2 c2) := ca (cell_setCell_self ((cell_setCell_other (by simp) _).trans d3) _)
  have ycz2 : ∀ o, (((W2.setCell ⟨w.heap.size, 0, none⟩ (.int .i64 k1)).setCell ⟨w.heap.size, 1, none⟩ (.slice a1 n1 c1)).alloc (Obj.cells #[.int .i64 1, .int .i64 7, .int .i64 (-3), .int .i64 99, .int .i64 0, .int .i64 100] 3)).frozen? ⟨w.heap.size + 1, o, none⟩ = false := fun o => (((Below.refl ((W2.setCell ⟨w.heap.size, 0, none⟩ (.int .i64 k1)).setCell ⟨w.heap.size, 1, none⟩ (.slice a1 n1 c1)).heap.size ((W2.setCell ⟨w.heap.size, 0, none⟩ (.int .i64 k1)).setCell ⟨w.heap.size, 1, none⟩ (.slice a1 n1 c1))).alloc (Nat.le_refl _) (Obj.cells #[.int .i64 1, .int .i64 7, .int .i64 (-3), .int .i64 99, .int .i64 0, .int .i64 100] 3)).frozen (p := ⟨w.heap.size + 1, o, none⟩) (by simp; omega)).trans ((frozen_setCell_ne _ _ _ _ o (by simp)).trans ((frozen_setCell_ne _ _ _ _ o (by simp)).trans (yz2 o)))
  have hltc2 : w.heap.size + 1 < (((W2.setCell ⟨w.heap.size, 0, none⟩ (.int .i64 k1)).setCell ⟨w.heap.size, 1, none⟩ (.slice a1 n1 c1)).alloc (Obj.cells #[.int .i64 1, .int .i64 7, .int .i64 (-3), .int .i64 99, .int .i64 0, .int .i64 100] 3)).heap.size := by simp; omega
  clear oth ca d0 d1 d2 d3
  clear q1 q2 z1 z2 g1 g2 hbw hP hO1 hO2 hE0 hE1
  have hn0 : (0 : Int) ≤ (n : Int) := by omega
  have hn1 : (n : Int) ≤ 9223372036854775807 := by have := HMX.out; omega
  obtain ⟨qn, hq, hq6⟩ : ∃ qn : Nat, Int.tmod (n : Int) 6 = (qn : Int) ∧ qn < 6 := ⟨n % 6, by rw [Int.tmod_eq_emod_of_nonneg hn0]; omega, Nat.mod_lt _ (by omega)⟩
  obtain ⟨l, hl, h7⟩ : ∃ l : Int, (-100 ≤ l ∧ l ≤ 100) ∧ (([.int .i64 1, .int .i64 7, .int .i64 (-3), .int .i64 99, .int .i64 0, .int .i64 100] : List Value)[qn]'(by simpa using hq6)) = .int .i64 l := by
    rcases (show qn = 0 ∨ qn = 1 ∨ qn = 2 ∨ qn = 3 ∨ qn = 4 ∨ qn = 5 by omega) with rfl | rfl | rfl | rfl | rfl | rfl
    · exact ⟨1, by decide, rfl⟩
    · exact ⟨7, by decide, rfl⟩
    · exact ⟨-3, by decide, rfl⟩
    · exact ⟨99, by decide, rfl⟩
    · exact ⟨0, by decide, rfl⟩
    · exact ⟨100, by decide, rfl⟩
  have hq0 : (0 : Int) ≤ (qn : Int) := by omega
  have hq1 : (qn : Int) < 6 := by omega
  have HFIN2 := hid (HFIN.out l (([.int .i64 1, .int .i64 7, .int .i64 (-3), .int .i64 99, .int .i64 0, .int .i64 100] : List Value)[qn]'(by simpa using hq6)) h7 hl)
  clear hl HFIN h7
  refine regionL (s := 9) (S0 := (fun w' => w'.cell? ⟨O, 0, none⟩ = some (.int .i64 k1) ∧ w'.cell? ⟨O, 1, none⟩ = some (.slice a1 n1 c1) ∧ w'.cell? ⟨O + 1, 0, none⟩ = some (.int .i64 k2) ∧ w'.cell? ⟨O + 1, 1, none⟩ = some (.slice a2 n2 c2))) (S1 := (fun _ => True)) (by kernel_rfl) (HS.out _ (by repeat' (first | exact Above.refl _ _ | (refine Above.drewB ?_) | (refine Above.setCell ?_ (by first | (simp; done) | (simp; omega)) _) | (refine Above.allocA ?_ _)))) (trivial) (fun hS0 => ?_)
  refine takeL0 (i := 0) (v := ?vc1) rfl rfl (by kernel_rfl) (by kernel_rfl) (by kernel_rfl) (by decide) (by kernel_rfl) (by kernel_rfl) (fun _ _ _ h => h) (Or.inl ⟨by rfl, ?hyc1⟩) (by assumption) ?_
  case hyc1 => (intro w hSw; (try dsimp only at hSw); go_simp; (try with_reducible rfl))
  try simp only [Act.put, List.setIfInBounds_toArray, List.set_cons_zero, List.set_cons_succ]
  refine takeL0 (i := 1) (v := ?vc2) rfl rfl (by kernel_rfl) (by kernel_rfl) (by kernel_rfl) (by decide) (by kernel_rfl) (by kernel_rfl) (fun _ _ _ h => h) (Or.inl ⟨by rfl, ?hyc2⟩) (by assumption) ?_
  case hyc2 => (intro w hSw; (try dsimp only at hSw); go_simp; (try with_reducible rfl))
  try simp only [Act.put, List.setIfInBounds_toArray, List.set_cons_zero, List.set_cons_succ]
  refine takeL (i := 3) (v := ?vc3) rfl (by kernel_rfl) (by kernel_rfl) (by kernel_rfl) (by decide) (fun _ _ _ h => h) (Or.inl ⟨by rfl, ?hyc3⟩) (by assumption) ?_
  case hyc3 => (intro w hSw; (try dsimp only at hSw); go_simp; (try with_reducible rfl))
  try simp only [Act.put, List.setIfInBounds_toArray, List.set_cons_zero, List.set_cons_succ]
  refine takeL (i := 4) (v := ?vc4) rfl (by kernel_rfl) (by kernel_rfl) (by kernel_rfl) (by decide) (fun _ _ _ h => h) (Or.inl ⟨by rfl, ?hyc4⟩) (by assumption) ?_
  case hyc4 => (intro w hSw; (try dsimp only at hSw); go_simp; (try with_reducible rfl))
  try simp only [Act.put, List.setIfInBounds_toArray, List.set_cons_zero, List.set_cons_succ]
  refine takeL (i := 5) (v := ?vc5) rfl (by kernel_rfl) (by kernel_rfl) (by kernel_rfl) (by decide) (fun _ _ _ h => h) (Or.inl ⟨by rfl, ?hyc5⟩) (by assumption) ?_
  case hyc5 => (intro w hSw; (try dsimp only at hSw); go_simp; (try with_reducible rfl))
  try simp only [Act.put, List.setIfInBounds_toArray, List.set_cons_zero, List.set_cons_succ]
  refine readyL (rs := [2, 8]) (by kernel_rfl) (by simp) ?_
  refine AllReadyL.cons rfl (fun K hK => ?_) ?_
  · go_simp
    refine hK.out _ _ ?_ (fun hS1 => ?_)
    · exact ⟨trivial, fun _ => HS.out _ (by repeat' (first | exact Above.refl _ _ | (refine Above.drewB ?_) | (refine Above.setCell ?_ (by first | (simp; done) | (simp; omega)) _) | (refine Above.allocA ?_ _)))⟩
    clear hK K hS0
    try simp only [Act.put, List.setIfInBounds_toArray, List.set_cons_zero, List.set_cons_succ]
    refine takeL (i := 6) (v := ?vc6) rfl (by kernel_rfl) (by kernel_rfl) (by kernel_rfl) (by decide) (fun _ _ _ h => h) (Or.inl ⟨by rfl, ?hyc6⟩) (by assumption) ?_
    case hyc6 => (intro w hSw; (try dsimp only at hSw); go_simp; (try with_reducible rfl))
    try simp only [Act.put, List.setIfInBounds_toArray, List.set_cons_zero, List.set_cons_succ]
    refine readyL (rs := [7, 8]) (by kernel_rfl) (by simp) ?_
    refine AllReadyL.cons rfl (fun K hK => ?_) ?_
    · go_simp
      refine hK.out _ _ ?_ (fun hS2 => ?_)
      · exact ⟨trivial, fun _ => HS.out _ (by repeat' (first | exact Above.refl _ _ | (refine Above.drewB ?_) | (refine Above.setCell ?_ (by first | (simp; done) | (simp; omega)) _) | (refine Above.allocA ?_ _)))⟩
      clear hK K hS1
      try simp only [Act.put, List.setIfInBounds_toArray, List.set_cons_zero, List.set_cons_succ]
      refine readyL (rs := [8]) (by kernel_rfl) (by simp) ?_
      refine AllReadyL.cons rfl (fun K hK => ?_) AllReadyL.nil
      go_simp
      refine hK.out _ _ ?_ (fun hS3 => ?_)
      · exact ⟨trivial, fun _ => HS.out _ (by repeat' (first | exact Above.refl _ _ | (refine Above.drewB ?_) | (refine Above.setCell ?_ (by first | (simp; done) | (simp; omega)) _) | (refine Above.allocA ?_ _)))⟩
      clear hK K hS2
      try simp only [Act.put, List.setIfInBounds_toArray, List.set_cons_zero, List.set_cons_succ]
      refine readyL (rs := [9]) (by kernel_rfl) (by simp) ?_
      refine AllReadyL.cons rfl (fun K hK => ?_) AllReadyL.nil
      go_simp
      refine hK.out _ _ ?_ (fun hS4 => ?_)
      · exact ⟨trivial, fun h => absurd (h.symm.trans (show _ = true by kernel_rfl)) (by decide)⟩
      clear hK K hS3
      try simp only [Act.put, List.setIfInBounds_toArray, List.set_cons_zero, List.set_cons_succ]
      refine readyL (rs := [10]) (by kernel_rfl) (by simp) ?_
      refine AllReadyL.cons rfl (fun K hK => ?_) AllReadyL.nil
      go_simp
      refine hK.out _ _ ?_ (fun hS5 => ?_)
      · exact ⟨trivial, fun h => absurd (h.symm.trans (show _ = true by kernel_rfl)) (by decide)⟩
      clear hK K hS4
      try simp only [Act.put, List.setIfInBounds_toArray, List.set_cons_zero, List.set_cons_succ]
      refine doneL (by kernel_rfl) ?_ _
      go_wp2_with fail
      exact bodyPost_ret (v := .tuple #[.agg #[.int .i64 k1, .slice a1 n1 c1], .agg #[.int .i64 k2, .slice a2 n2 c2], (([.int .i64 1, .int .i64 7, .int .i64 (-3), .int .i64 99, .int .i64 0, .int .i64 100] : List Value)[qn]'(by simpa using hq6))]) (by simp [results, Try.results13, go_sem, y0, y1, y2, y3, yb0, yb1, yb2, yb3, yc0, yc1, yc2, yc3, yd0, yd1, yd2, yd3]) rfl (HFIN2.out _ (by repeat' (first | exact Above.refl _ _ | (refine Above.drewB ?_) | (refine Above.setCell ?_ (by first | (simp; done) | (simp; omega)) _) | (refine Above.allocA ?_ _))) (by repeat' (first | exact HBW.out | (refine belowDrew ?_ (Nat.le_refl _)) | (refine Below.setCell ?_ (by first | (simp; done) | (simp; omega)) _) | (refine Below.alloc ?_ (by first | (simp; omega) | (have := HBW.out.size; simp; omega) | simp) _))))
    refine AllReadyL.cons rfl (fun K hK => ?_) AllReadyL.nil
    go_simp
    refine hK.out _ _ ?_ (fun hS2 => ?_)
    · exact ⟨trivial, fun _ => HS.out _ (by repeat' (first | exact Above.refl _ _ | (refine Above.drewB ?_) | (refine Above.setCell ?_ (by first | (simp; done) | (simp; omega)) _) | (refine Above.allocA ?_ _)))⟩
    clear hK K hS1
    try simp only [Act.put, List.setIfInBounds_toArray, List.set_cons_zero, List.set_cons_succ]
    refine readyL (rs := [7, 9]) (by kernel_rfl) (by simp) ?_
    refine AllReadyL.cons rfl (fun K hK => ?_) ?_
    · go_simp
      refine hK.out _ _ ?_ (fun hS3 => ?_)
      · exact ⟨trivial, fun _ => HS.out _ (by repeat' (first | exact Above.refl _ _ | (refine Above.drewB ?_) | (refine Above.setCell ?_ (by first | (simp; done) | (simp; omega)) _) | (refine Above.allocA ?_ _)))⟩
      clear hK K hS2
      try simp only [Act.put, List.setIfInBounds_toArray, List.set_cons_zero, List.set_cons_succ]
      refine readyL (rs := [9]) (by kernel_rfl) (by simp) ?_
      refine AllReadyL.cons rfl (fun K hK => ?_) AllReadyL.nil
      go_simp
      refine hK.out _ _ ?_ (fun hS4 => ?_)
      · exact ⟨trivial, fun h => absurd (h.symm.trans (show _ = true by kernel_rfl)) (by decide)⟩
      clear hK K hS3
      try simp only [Act.put, List.setIfInBounds_toArray, List.set_cons_zero, List.set_cons_succ]
      refine readyL (rs := [10]) (by kernel_rfl) (by simp) ?_
      refine AllReadyL.cons rfl (fun K hK => ?_) AllReadyL.nil
      go_simp
      refine hK.out _ _ ?_ (fun hS5 => ?_)
      · exact ⟨trivial, fun h => absurd (h.symm.trans (show _ = true by kernel_rfl)) (by decide)⟩
      clear hK K hS4
      try simp only [Act.put, List.setIfInBounds_toArray, List.set_cons_zero, List.set_cons_succ]
      refine doneL (by kernel_rfl) ?_ _
      go_wp2_with fail
      exact bodyPost_ret (v := .tuple #[.agg #[.int .i64 k1, .slice a1 n1 c1], .agg #[.int .i64 k2, .slice a2 n2 c2], (([.int .i64 1, .int .i64 7, .int .i64 (-3), .int .i64 99, .int .i64 0, .int .i64 100] : List Value)[qn]'(by simpa using hq6))]) (by simp [results, Try.results13, go_sem, y0, y1, y2, y3, yb0, yb1, yb2, yb3, yc0, yc1, yc2, yc3, yd0, yd1, yd2, yd3]) rfl (HFIN2.out _ (by repeat' (first | exact Above.refl _ _ | (refine Above.drewB ?_) | (refine Above.setCell ?_ (by first | (simp; done) | (simp; omega)) _) | (refine Above.allocA ?_ _))) (by repeat' (first | exact HBW.out | (refine belowDrew ?_ (Nat.le_refl _)) | (refine Below.setCell ?_ (by first | (simp; done) | (simp; omega)) _) | (refine Below.alloc ?_ (by first | (simp; omega) | (have := HBW.out.size; simp; omega) | simp) _))))
    refine AllReadyL.cons rfl (fun K hK => ?_) AllReadyL.nil
    go_simp
    refine hK.out _ _ ?_ (fun hS3 => ?_)
    · exact ⟨trivial, fun h => absurd (h.symm.trans (show _ = true by kernel_rfl)) (by decide)⟩
    clear hK K hS2
    try simp only [Act.put, List.setIfInBounds_toArray, List.set_cons_zero, List.set_cons_succ]
    refine readyL (rs := [7]) (by kernel_rfl) (by simp) ?_
    refine AllReadyL.cons rfl (fun K hK => ?_) AllReadyL.nil
    go_simp
    refine hK.out _ _ ?_ (fun hS4 => ?_)
    · exact ⟨trivial, fun h => absurd (h.symm.trans (show _ = true by kernel_rfl)) (by decide)⟩
    clear hK K hS3
    try simp only [Act.put, List.setIfInBounds_toArray, List.set_cons_zero, List.set_cons_succ]
    refine readyL (rs := [10]) (by kernel_rfl) (by simp) ?_
    refine AllReadyL.cons rfl (fun K hK => ?_) AllReadyL.nil
    go_simp
    refine hK.out _ _ ?_ (fun hS5 => ?_)
    · exact ⟨trivial, fun h => absurd (h.symm.trans (show _ = true by kernel_rfl)) (by decide)⟩
    clear hK K hS4
    try simp only [Act.put, List.setIfInBounds_toArray, List.set_cons_zero, List.set_cons_succ]
    refine doneL (by kernel_rfl) ?_ _
    go_wp2_with fail
    exact bodyPost_ret (v := .tuple #[.agg #[.int .i64 k1, .slice a1 n1 c1], .agg #[.int .i64 k2, .slice a2 n2 c2], (([.int .i64 1, .int .i64 7, .int .i64 (-3), .int .i64 99, .int .i64 0, .int .i64 100] : List Value)[qn]'(by simpa using hq6))]) (by simp [results, Try.results13, go_sem, y0, y1, y2, y3, yb0, yb1, yb2, yb3, yc0, yc1, yc2, yc3, yd0, yd1, yd2, yd3]) rfl (HFIN2.out _ (by repeat' (first | exact Above.refl _ _ | (refine Above.drewB ?_) | (refine Above.setCell ?_ (by first | (simp; done) | (simp; omega)) _) | (refine Above.allocA ?_ _))) (by repeat' (first | exact HBW.out | (refine belowDrew ?_ (Nat.le_refl _)) | (refine Below.setCell ?_ (by first | (simp; done) | (simp; omega)) _) | (refine Below.alloc ?_ (by first | (simp; omega) | (have := HBW.out.size; simp; omega) | simp) _))))
  refine AllReadyL.cons rfl (fun K hK => ?_) AllReadyL.nil
  go_simp
  refine hK.out _ _ ?_ (fun hS1 => ?_)
  · exact ⟨trivial, fun _ => HS.out _ (by repeat' (first | exact Above.refl _ _ | (refine Above.drewB ?_) | (refine Above.setCell ?_ (by first | (simp; done) | (simp; omega)) _) | (refine Above.allocA ?_ _)))⟩
  clear hK K hS0
  try simp only [Act.put, List.setIfInBounds_toArray, List.set_cons_zero, List.set_cons_succ]
  refine readyL (rs := [2, 9]) (by kernel_rfl) (by simp) ?_
  refine AllReadyL.cons rfl (fun K hK => ?_) ?_
  · go_simp
    refine hK.out _ _ ?_ (fun hS2 => ?_)
    · exact ⟨trivial, fun _ => HS.out _ (by repeat' (first | exact Above.refl _ _ | (refine Above.drewB ?_) | (refine Above.setCell ?_ (by first | (simp; done) | (simp; omega)) _) | (refine Above.allocA ?_ _)))⟩
    clear hK K hS1
    try simp only [Act.put, List.setIfInBounds_toArray, List.set_cons_zero, List.set_cons_succ]
    refine takeL (i := 6) (v := ?vc7) rfl (by kernel_rfl) (by kernel_rfl) (by kernel_rfl) (by decide) (fun _ _ _ h => h) (Or.inl ⟨by rfl, ?hyc7⟩) (by assumption) ?_
    case hyc7 => (intro w hSw; (try dsimp only at hSw); go_simp; (try with_reducible rfl))
    try simp only [Act.put, List.setIfInBounds_toArray, List.set_cons_zero, List.set_cons_succ]
    refine readyL (rs := [7, 9]) (by kernel_rfl) (by simp) ?_
    refine AllReadyL.cons rfl (fun K hK => ?_) ?_
    · go_simp
      refine hK.out _ _ ?_ (fun hS3 => ?_)
      · exact ⟨trivial, fun _ => HS.out _ (by repeat' (first | exact Above.refl _ _ | (refine Above.drewB ?_) | (refine Above.setCell ?_ (by first | (simp; done) | (simp; omega)) _) | (refine Above.allocA ?_ _)))⟩
      clear hK K hS2
      try simp only [Act.put, List.setIfInBounds_toArray, List.set_cons_zero, List.set_cons_succ]
      refine readyL (rs := [9]) (by kernel_rfl) (by simp) ?_
      refine AllReadyL.cons rfl (fun K hK => ?_) AllReadyL.nil
      go_simp
      refine hK.out _ _ ?_ (fun hS4 => ?_)
      · exact ⟨trivial, fun h => absurd (h.symm.trans (show _ = true by kernel_rfl)) (by decide)⟩
      clear hK K hS3
      try simp only [Act.put, List.setIfInBounds_toArray, List.set_cons_zero, List.set_cons_succ]
      refine readyL (rs := [10]) (by kernel_rfl) (by simp) ?_
      refine AllReadyL.cons rfl (fun K hK => ?_) AllReadyL.nil
      go_simp
      refine hK.out _ _ ?_ (fun hS5 => ?_)
      · exact ⟨trivial, fun h => absurd (h.symm.trans (show _ = true by kernel_rfl)) (by decide)⟩
      clear hK K hS4
      try simp only [Act.put, List.setIfInBounds_toArray, List.set_cons_zero, List.set_cons_succ]
      refine doneL (by kernel_rfl) ?_ _
      go_wp2_with fail
      exact bodyPost_ret (v := .tuple #[.agg #[.int .i64 k1, .slice a1 n1 c1], .agg #[.int .i64 k2, .slice a2 n2 c2], (([.int .i64 1, .int .i64 7, .int .i64 (-3), .int .i64 99, .int .i64 0, .int .i64 100] : List Value)[qn]'(by simpa using hq6))]) (by simp [results, Try.results13, go_sem, y0, y1, y2, y3, yb0, yb1, yb2, yb3, yc0, yc1, yc2, yc3, yd0, yd1, yd2, yd3]) rfl (HFIN2.out _ (by repeat' (first | exact Above.refl _ _ | (refine Above.drewB ?_) | (refine Above.setCell ?_ (by first | (simp; done) | (simp; omega)) _) | (refine Above.allocA ?_ _))) (by repeat' (first | exact HBW.out | (refine belowDrew ?_ (Nat.le_refl _)) | (refine Below.setCell ?_ (by first | (simp; done) | (simp; omega)) _) | (refine Below.alloc ?_ (by first | (simp; omega) | (have := HBW.out.size; simp; omega) | simp) _))))
    refine AllReadyL.cons rfl (fun K hK => ?_) AllReadyL.nil
    go_simp
    refine hK.out _ _ ?_ (fun hS3 => ?_)
    · exact ⟨trivial, fun h => absurd (h.symm.trans (show _ = true by kernel_rfl)) (by decide)⟩
    clear hK K hS2
    try simp only [Act.put, List.setIfInBounds_toArray, List.set_cons_zero, List.set_cons_succ]
    refine readyL (rs := [7]) (by kernel_rfl) (by simp) ?_
    refine AllReadyL.cons rfl (fun K hK => ?_) AllReadyL.nil
    go_simp
    refine hK.out _ _ ?_ (fun hS4 => ?_)
    · exact ⟨trivial, fun h => absurd (h.symm.trans (show _ = true by kernel_rfl)) (by decide)⟩
    clear hK K hS3
    try simp only [Act.put, List.setIfInBounds_toArray, List.set_cons_zero, List.set_cons_succ]
    refine readyL (rs := [10]) (by kernel_rfl) (by simp) ?_
    refine AllReadyL.cons rfl (fun K hK => ?_) AllReadyL.nil
    go_simp
    refine hK.out _ _ ?_ (fun hS5 => ?_)
    · exact ⟨trivial, fun h => absurd (h.symm.trans (show _ = true by kernel_rfl)) (by decide)⟩
    clear hK K hS4
    try simp only [Act.put, List.setIfInBounds_toArray, List.set_cons_zero, List.set_cons_succ]
    refine doneL (by kernel_rfl) ?_ _
    go_wp2_with fail
    exact bodyPost_ret (v := .tuple #[.agg #[.int .i64 k1, .slice a1 n1 c1], .agg #[.int .i64 k2, .slice a2 n2 c2], (([.int .i64 1, .int .i64 7, .int .i64 (-3), .int .i64 99, .int .i64 0, .int .i64 100] : List Value)[qn]'(by simpa using hq6))]) (by simp [results, Try.results13, go_sem, y0, y1, y2, y3, yb0, yb1, yb2, yb3, yc0, yc1, yc2, yc3, yd0, yd1, yd2, yd3]) rfl (HFIN2.out _ (by repeat' (first | exact Above.refl _ _ | (refine Above.drewB ?_) | (refine Above.setCell ?_ (by first | (simp; done) | (simp; omega)) _) | (refine Above.allocA ?_ _))) (by repeat' (first | exact HBW.out | (refine belowDrew ?_ (Nat.le_refl _)) | (refine Below.setCell ?_ (by first | (simp; done) | (simp; omega)) _) | (refine Below.alloc ?_ (by first | (simp; omega) | (have := HBW.out.size; simp; omega) | simp) _))))
  refine AllReadyL.cons rfl (fun K hK => ?_) AllReadyL.nil
  go_simp
  refine hK.out _ _ ?_ (fun hS2 => ?_)
  · exact ⟨trivial, fun h => absurd (h.symm.trans (show _ = true by kernel_rfl)) (by decide)⟩
  clear hK K hS1
  try simp only [Act.put, List.setIfInBounds_toArray, List.set_cons_zero, List.set_cons_succ]
  refine readyL (rs := [2]) (by kernel_rfl) (by simp) ?_
  refine AllReadyL.cons rfl (fun K hK => ?_) AllReadyL.nil
  go_simp
  refine hK.out _ _ ?_ (fun hS3 => ?_)
  · exact ⟨trivial, fun h => absurd (h.symm.trans (show _ = true by kernel_rfl)) (by decide)⟩
  clear hK K hS2
  try simp only [Act.put, List.setIfInBounds_toArray, List.set_cons_zero, List.set_cons_succ]
  refine takeL (i := 6) (v := ?vc8) rfl (by kernel_rfl) (by kernel_rfl) (by kernel_rfl) (by decide) (fun _ _ _ h => h) (Or.inl ⟨by rfl, ?hyc8⟩) (by assumption) ?_
  case hyc8 => (intro w hSw; (try dsimp only at hSw); go_simp; (try with_reducible rfl))
  try simp only [Act.put, List.setIfInBounds_toArray, List.set_cons_zero, List.set_cons_succ]
  refine readyL (rs := [7]) (by kernel_rfl) (by simp) ?_
  refine AllReadyL.cons rfl (fun K hK => ?_) AllReadyL.nil
  go_simp
  refine hK.out _ _ ?_ (fun hS4 => ?_)
  · exact ⟨trivial, fun h => absurd (h.symm.trans (show _ = true by kernel_rfl)) (by decide)⟩
  clear hK K hS3
  try simp only [Act.put, List.setIfInBounds_toArray, List.set_cons_zero, List.set_cons_succ]
  refine readyL (rs := [10]) (by kernel_rfl) (by simp) ?_
  refine AllReadyL.cons rfl (fun K hK => ?_) AllReadyL.nil
  go_simp
  refine hK.out _ _ ?_ (fun hS5 => ?_)
  · exact ⟨trivial, fun h => absurd (h.symm.trans (show _ = true by kernel_rfl)) (by decide)⟩
  clear hK K hS4
  try simp only [Act.put, List.setIfInBounds_toArray, List.set_cons_zero, List.set_cons_succ]
  refine doneL (by kernel_rfl) ?_ _
  go_wp2_with fail
  exact bodyPost_ret (v := .tuple #[.agg #[.int .i64 k1, .slice a1 n1 c1], .agg #[.int .i64 k2, .slice a2 n2 c2], (([.int .i64 1, .int .i64 7, .int .i64 (-3), .int .i64 99, .int .i64 0, .int .i64 100] : List Value)[qn]'(by simpa using hq6))]) (by simp [results, Try.results13, go_sem, y0, y1, y2, y3, yb0, yb1, yb2, yb3, yc0, yc1, yc2, yc3, yd0, yd1, yd2, yd3]) rfl (HFIN2.out _ (by repeat' (first | exact Above.refl _ _ | (refine Above.drewB ?_) | (refine Above.setCell ?_ (by first | (simp; done) | (simp; omega)) _) | (refine Above.allocA ?_ _))) (by repeat' (first | exact HBW.out | (refine belowDrew ?_ (Nat.le_refl _)) | (refine Below.setCell ?_ (by first | (simp; done) | (simp; omega)) _) | (refine Below.alloc ?_ (by first | (simp; omega) | (have := HBW.out.size; simp; omega) | simp) _))))
end Go.Proofs.Ytolhfcpmhhhjpaa

/- Marks of terms: the plain functions, rows of cells, and what a round of the marking leaves alone. -/
import Derived.Test.YtnpofpjaejnejaaDoorHeld
import Derived.Test.YtnpofpjaejnejaaDoorMText
import Derived.Test.YtnpofpjaejnejaaDoorMTo
namespace Go.Proofs.YtnpofpjaejnejaaDoor
open Go.RowKit

mutual
/-- How many numbers the marks of a term take below its root. -/
def Tm.num : Tm → Nat
  | .mk _ _ _ ty fr _ ts => ty.cnt + fr.cnt + numL ts
def numL : List Tm → Nat
  | [] => 0
  | t :: ts => 6 + t.num + numL ts
end

/-- How many numbers the nodes below a type's root take. -/
def cK (t : Ty) : Int := ((Ty.mk 0 (kidsT t)).cnt : Int)

mutual
/-- The terms of a slice, marked from a number on. -/
def mkML : List Tm → Nat → List Tm
  | [], _ => []
  | .mk _ _ _ ty fr _ ts :: r, m => .mk (m : Int) (mtx (m + 1)) ((m : Int) + 1 + 1) (.mk ((m : Int) + 1 + 1 + 1) (mkL (kidsT ty) ((m : Int) + 1 + 1 + 1 + 1))) (.mk ((m : Int) + 1 + 1 + 1 + 1 + cK ty) (mkL (kidsT fr) ((m : Int) + 1 + 1 + 1 + 1 + cK ty + 1))) ((m : Int) + 1 + 1 + 1 + 1 + cK ty + 1 + cK fr) (mkML ts (m + 6 + ty.cnt + fr.cnt)) :: mkML r (m + (6 + (ty.cnt + fr.cnt + numL ts)))
end

/-- One term, marked. -/
def mk1 : Tm → Nat → Tm
  | .mk _ _ _ ty fr _ ts, m => .mk (m : Int) (mtx (m + 1)) ((m : Int) + 1 + 1) (.mk ((m : Int) + 1 + 1 + 1) (mkL (kidsT ty) ((m : Int) + 1 + 1 + 1 + 1))) (.mk ((m : Int) + 1 + 1 + 1 + 1 + cK ty) (mkL (kidsT fr) ((m : Int) + 1 + 1 + 1 + 1 + cK ty + 1))) ((m : Int) + 1 + 1 + 1 + 1 + cK ty + 1 + cK fr) (mkML ts (m + 6 + ty.cnt + fr.cnt))

theorem mkML_cons (t : Tm) (r : List Tm) (m : Nat) : mkML (t :: r) m = mk1 t m :: mkML r (m + (6 + t.num)) := by
  cases t
  simp only [mkML, mk1, Tm.num]

theorem mkML_len : ∀ (ts : List Tm) (m : Nat), (mkML ts m).length = ts.length
  | [], _ => by simp only [mkML]
  | t :: ts, m => by rw [mkML_cons, List.length_cons, mkML_len ts, List.length_cons]

/-- How many numbers the first j terms take. -/
def offM : List Tm → Nat → Nat
  | [], _ => 0
  | _ :: _, 0 => 0
  | t :: ts, j + 1 => 6 + t.num + offM ts j

theorem offM_zero (ts : List Tm) : offM ts 0 = 0 := by cases ts <;> rfl

theorem offM_all : ∀ ts : List Tm, offM ts ts.length = numL ts
  | [] => rfl
  | t :: ts => by simp only [List.length_cons, offM, numL, offM_all ts]

theorem offM_succ : ∀ {ts : List Tm} {j : Nat} (h : j < ts.length), offM ts (j + 1) = offM ts j + (6 + ts[j].num)
  | t :: ts, 0, _ => by simp only [offM, offM_zero, List.getElem_cons_zero]; omega
  | t :: ts, j + 1, h => by
    have := offM_succ (ts := ts) (j := j) (by simpa using h)
    simp only [offM, this, List.getElem_cons_succ]
    omega

theorem offM_bd : ∀ (ts : List Tm) (j : Nat), offM ts j ≤ numL ts
  | [], j => by simp [offM]
  | t :: ts, 0 => by simp [offM]
  | t :: ts, j + 1 => by
    have := offM_bd ts j
    simp only [offM, numL]
    omega

theorem mkML_get : ∀ {ts : List Tm} {m j : Nat} (h : j < ts.length) (h' : j < (mkML ts m).length), (mkML ts m)[j] = mk1 ts[j] (m + offM ts j)
  | t :: ts, m, 0, _, _ => by simp [mkML_cons, offM]
  | t :: ts, m, j + 1, h, h' => by
    have e := mkML_get (ts := ts) (m := m + (6 + t.num)) (j := j) (by simpa using h) (by rw [mkML_len]; simpa using h)
    simp only [mkML_cons, List.getElem_cons_succ, offM]
    rw [e, show m + (6 + t.num) + offM ts j = m + (6 + t.num + offM ts j) by omega]

/-- A row of cells. -/
def RowIs (w : World) (b off : Nat) (L : List Value) : Prop := ∀ i, i < L.length → w.cell? ⟨b, off + i, none⟩ = L[i]?

theorem RowIs.set {w : World} {b off p : Nat} {L : List Value} (h : RowIs w b off L) (hp : p < L.length) (v : Value) : RowIs (w.setCell ⟨b, off + p, none⟩ v) b off (L.set p v) := by
  intro i hi
  rw [List.length_set] at hi
  by_cases e : i = p
  · subst e
    have := h i hi
    rw [List.getElem?_eq_getElem hi] at this
    rw [cell_setCell_self this, List.getElem?_set_self hi]
  · rw [cell_setCell_other (by omega), h i hi, List.getElem?_set_ne (fun x => e x.symm)]

theorem RowIs.only {w w' : World} {b off : Nat} {L : List Value} {g : List Nat} (h : RowIs w b off L) (hg : Only g w w') (hb : b ∉ g) (hlt : b < w.heap.size) : RowIs w' b off L :=
  fun i hi => (World.cell?_of_block (w := w) (a := ⟨b, off + i, none⟩) (hg.block b hlt hb)).trans (h i hi)

theorem RowIs.below {w w' : World} {b off : Nat} {L : List Value} (h : RowIs w b off L) (hb : Below w.heap.size w w') (hlt : b < w.heap.size) : RowIs w' b off L :=
  fun i hi => (hb.cell (p := ⟨b, off + i, none⟩) hlt).trans (h i hi)

/-- A row of nine, cell by cell. -/
theorem RowIs.cells {w : World} {b off : Nat} {x0 x1 x2 x3 x4 x5 x6 x7 x8 : Value} (h : RowIs w b off [x0, x1, x2, x3, x4, x5, x6, x7, x8]) :
    w.cell? ⟨b, off, none⟩ = some x0 ∧ w.cell? ⟨b, off + 1, none⟩ = some x1 ∧ w.cell? ⟨b, off + 2, none⟩ = some x2 ∧ w.cell? ⟨b, off + 3, none⟩ = some x3 ∧ w.cell? ⟨b, off + 4, none⟩ = some x4 ∧ w.cell? ⟨b, off + 5, none⟩ = some x5 ∧ w.cell? ⟨b, off + 6, none⟩ = some x6 ∧ w.cell? ⟨b, off + 7, none⟩ = some x7 ∧ w.cell? ⟨b, off + 8, none⟩ = some x8 :=
  ⟨h 0 (by simp), h 1 (by simp), h 2 (by simp), h 3 (by simp), h 4 (by simp), h 5 (by simp), h 6 (by simp), h 7 (by simp), h 8 (by simp)⟩

/-- Element i of a row of terms. -/
def ElemM (w : World) (b o i : Nat) (t : Tm) (f : List Nat) : Prop := ∃ L, L.length = 9 ∧ RowIs w b (o + i * 9) L ∧ Tm.At w t (.agg L.toArray) f

theorem atML_idx {w : World} {b : Nat} : ∀ {ts : List Tm} {o : Nat} {fp : List Nat}, Tm.AtL w ts b o fp → ∃ fps : List (List Nat), fps.length = ts.length ∧ fps.flatten = fp ∧ ∀ i (h : i < ts.length) (h' : i < fps.length), ElemM w b o i ts[i] fps[i]
  | [], o, fp, h => ⟨[], rfl, by simp only [Tm.AtL] at h; rw [h]; rfl, fun i h => by simp at h⟩
  | t :: ts, o, fp, h => by
    simp only [Tm.AtL] at h
    obtain ⟨cs, f1, f2, hc, ha, hl, rfl⟩ := h
    obtain ⟨fps, h1, h2, h3⟩ := atML_idx hl
    refine ⟨f1 :: fps, by simp [h1], by simp [h2], fun i hi hi' => ?_⟩
    cases i with
    | zero =>
      have h9 := Tm.size9 ha
      refine ⟨cs.toList, by simpa using h9, fun i hi => ?_, by simpa using ha⟩
      rw [Nat.zero_mul, Nat.add_zero, hc i (by simp at hi; omega)]
      simp
    | succ i =>
      obtain ⟨L, e0, e1, e2⟩ := h3 i (by simpa using hi) (by simpa using hi')
      exact ⟨L, e0, by rw [show o + (i + 1) * 9 = o + 9 + i * 9 by omega]; exact e1, e2⟩

theorem idx_atML {w : World} {b : Nat} : ∀ {ts : List Tm} {o : Nat} {fps : List (List Nat)}, fps.length = ts.length → (∀ i (h : i < ts.length) (h' : i < fps.length), ElemM w b o i ts[i] fps[i]) → Tm.AtL w ts b o fps.flatten
  | [], o, [], _, _ => by simp [Tm.AtL]
  | t :: ts, o, f :: fps, hl, h => by
    obtain ⟨L, e0, e1, e2⟩ := h 0 (by simp) (by simp)
    simp only [Tm.AtL]
    refine ⟨L.toArray, f, fps.flatten, fun i hi => ?_, e2, idx_atML (by simpa using hl) (fun i hi hi' => ?_), by simp⟩
    · have := e1 i (by omega)
      rw [Nat.zero_mul, Nat.add_zero] at this
      rw [this]
      simp
    · obtain ⟨L, e0, e1, e2⟩ := h (i + 1) (by simpa using hi) (by simpa using hi')
      exact ⟨L, e0, by rw [show o + 9 + i * 9 = o + (i + 1) * 9 by omega]; exact e1, e2⟩

/-- In block b only the cells from lo to hi, else only blocks of g. -/
structure RowOnly (b lo hi : Nat) (g : List Nat) (w w' : World) : Prop where
  only : Only (b :: g) w w'
  row : ∀ o, (o < lo ∨ hi ≤ o) → w'.cell? ⟨b, o, none⟩ = w.cell? ⟨b, o, none⟩

theorem RowOnly.refl (b lo hi : Nat) (g : List Nat) (w : World) : RowOnly b lo hi g w w := ⟨Only.refl _ _, fun _ _ => rfl⟩

theorem RowOnly.trans {b lo hi : Nat} {g : List Nat} {x y z : World} (h : RowOnly b lo hi g x y) (k : RowOnly b lo hi g y z) : RowOnly b lo hi g x z := ⟨h.only.trans k.only, fun o ho => (k.row o ho).trans (h.row o ho)⟩

theorem RowOnly.set {b lo hi : Nat} {g : List Nat} {x y : World} (h : RowOnly b lo hi g x y) {o : Nat} (h1 : lo ≤ o) (h2 : o < hi) (v : Value) : RowOnly b lo hi g x (y.setCell ⟨b, o, none⟩ v) :=
  h.trans ⟨Only.setCell (by simp) v, fun o' ho => cell_setCell_other (by omega) v⟩

theorem RowOnly.call {b lo hi : Nat} {g g' : List Nat} {x y z : World} (h : RowOnly b lo hi g x y) (hg : Only g' y z) (hs : ∀ a ∈ g', a ∈ g) (hb : b ∉ g') (hlt : b < x.heap.size) : RowOnly b lo hi g x z :=
  h.trans ⟨hg.sub (fun a ha => List.mem_cons_of_mem _ (hs a ha)), fun o _ => World.cell?_of_block (w := y) (a := ⟨b, o, none⟩) (hg.block b (Nat.lt_of_lt_of_le hlt h.only.size) hb)⟩

theorem ElemM.rowOnly {b o i j : Nat} {g : List Nat} {w w' : World} {t : Tm} {f : List Nat} (h : ElemM w b o i t f) (hr : RowOnly b (o + j * 9) (o + j * 9 + 9) g w w') (hne : i ≠ j) (hb : b ∉ f) (hd : ∀ x ∈ f, x ∉ g) : ElemM w' b o i t f := by
  obtain ⟨L, e0, e1, e2⟩ := h
  refine ⟨L, e0, fun k hk => ?_, e2.congr (fun x hx o' => World.cell?_of_block (w := w) (a := ⟨x, o', none⟩) (hr.only.block x (e2.lt x hx) ?_))⟩
  · rw [hr.row _ (by omega)]
    exact e1 k hk
  · intro hm
    rcases List.mem_cons.1 hm with rfl | hm
    · exact hb hx
    · exact hd x hx hm

theorem SlAt.setB {w : World} {ts : List Ty} {s : Value} {fp : List Nat} {b : Nat} (h : SlAt w ts s fp) (hb : b ∉ fp) (o : Nat) (v : Value) : SlAt (w.setCell ⟨b, o, none⟩ v) ts s fp :=
  h.congr fun x hx o' => cell_setCell_ne _ _ _ _ _ (fun e => hb (by rw [← show x = b from e]; exact hx))

theorem SmAt.setB {w : World} {ts : List Tm} {s : Value} {fp : List Nat} {b : Nat} (h : SmAt w ts s fp) (hb : b ∉ fp) (o : Nat) (v : Value) : SmAt (w.setCell ⟨b, o, none⟩ v) ts s fp :=
  h.congr fun x hx o' => cell_setCell_ne _ _ _ _ _ (fun e => hb (by rw [← show x = b from e]; exact hx))

theorem SlAt.onlyD {w w' : World} {ts : List Ty} {s : Value} {fp g : List Nat} (h : SlAt w ts s fp) (hg : Only g w w') (hd : ∀ x ∈ fp, x ∉ g) : SlAt w' ts s fp :=
  h.congr fun x hx o' => World.cell?_of_block (w := w) (a := ⟨x, o', none⟩) (hg.block x (h.lt x hx) (hd x hx))

theorem SmAt.onlyD {w w' : World} {ts : List Tm} {s : Value} {fp g : List Nat} (h : SmAt w ts s fp) (hg : Only g w w') (hd : ∀ x ∈ fp, x ∉ g) : SmAt w' ts s fp :=
  h.congr fun x hx o' => World.cell?_of_block (w := w) (a := ⟨x, o', none⟩) (hg.block x (h.lt x hx) (hd x hx))

end Go.Proofs.YtnpofpjaejnejaaDoor

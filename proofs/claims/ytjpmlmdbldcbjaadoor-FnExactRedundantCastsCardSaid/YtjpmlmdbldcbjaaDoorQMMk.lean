/- The laws' own helper markText: the text of a mark. Marks of terms: the plain functions, rows of cells, and what a round of the marking leaves alone. The laws' own helpers markTermS and markTerm. -/
import Derived.LoopTactic
import Derived.Laws.IdiomStrings
import Derived.Test.YtjpmlmdbldcbjaaDoorQPkA
import Derived.Test.YtjpmlmdbldcbjaaDoorQPkB
namespace Go.Proofs.YtjpmlmdbldcbjaaDoor
open Go.RowKit

/-- Decimal digits ahead of a text. -/
def dig (k : Nat) (acc : ByteArray) : ByteArray := if _h : k = 0 then acc else dig (k / 10) (⟨#[UInt8.ofNat (48 + k % 10)]⟩ ++ acc)
termination_by k
decreasing_by omega

theorem dig_zero (acc : ByteArray) : dig 0 acc = acc := by rw [dig, dif_pos rfl]
theorem dig_pos {k : Nat} (h : 0 < k) (acc : ByteArray) : dig k acc = dig (k / 10) (⟨#[UInt8.ofNat (48 + k % 10)]⟩ ++ acc) := by
  rw [dig, dif_neg (by omega)]

/-- The text of a mark. -/
def mtx (m : Nat) : ByteArray := ⟨#[109]⟩ ++ dig m ⟨#[]⟩

theorem size_small {n m s : Nat} (hn : 0 < n) (hm : m ≤ 2147483648) (h : n * 10 ^ s ≤ m) : s ≤ 9 := by
  by_cases hs : s ≤ 9
  · exact hs
  · have h1 : 10 ^ 10 ≤ 10 ^ s := Nat.pow_le_pow_right (by omega) (by omega)
    have h2 : 1 * 10 ^ s ≤ n * 10 ^ s := Nat.mul_le_mul_right _ hn
    have h3 : (10 : Nat) ^ 10 = 10000000000 := by decide
    omega

theorem pow_step {n m s : Nat} (h : n * 10 ^ s ≤ m) : n / 10 * 10 ^ (1 + s) ≤ m := by
  have h1 : n / 10 * 10 ≤ n := Nat.div_mul_le_self n 10
  have h2 : n / 10 * 10 * 10 ^ s ≤ n * 10 ^ s := Nat.mul_le_mul_right _ h1
  rw [Nat.pow_add, Nat.pow_one, ← Nat.mul_assoc]
  omega

theorem size_one (b : UInt8) (acc : ByteArray) : ((⟨#[b]⟩ : ByteArray) ++ acc).size = 1 + acc.size := by
  rw [ByteArray.size_append]
  rfl

theorem conv_digit (n : Nat) (wr : World) : (convert 81 9 (.slice (some ⟨wr.heap.size, 0, none⟩) 1 1)).run Tryd.prog (wr.alloc (Obj.cells #[.int .u8 (48 + (n : Int) % 10)] 5)) =
    .ok (.string ⟨#[UInt8.ofNat (48 + n % 10)]⟩) (wr.alloc (Obj.cells #[.int .u8 (48 + (n : Int) % 10)] 5)) := by
  refine run_convert_bytes_back _ _ _ 5 ⟨wr.heap.size, 0, none⟩ 1 [UInt8.ofNat (48 + n % 10)] Tryd.underlying81 Tryd.underlying5 Tryd.underlying9 ?_
  intro j hj
  have hj0 : j = 0 := by simpa using hj
  subst hj0
  have e : ((UInt8.ofNat (48 + n % 10)).toNat : Int) = 48 + (n : Int) % 10 := by
    rw [UInt8.toNat_ofNat_of_lt' (by have : UInt8.size = 256 := rfl; omega)]
    omega
  show (wr.alloc _).cell? ⟨wr.heap.size, 0 + 0, none⟩ = _
  rw [cell_of_block (alloc_new wr _)]
  simp only [List.getElem_cons_zero]
  rw [e]
  rfl

set_option maxRecDepth 100000 in
set_option maxHeartbeats 1000000 in
theorem markText_any (m : Nat) (h0 : 0 < m) (h1 : m ≤ 2147483648) (w : World) : Calls Tryd.prog 56 #[.int .i64 (m : Int)] w fun e w' => e = .returned (.string (mtx m)) ∧ (mtx m).size ≤ 11 ∧ Below w.heap.size w w' := by
  have hpos : ¬ (m : Int) ≤ 0 := by omega
  go_enter Tryd.func56, Tryd.ntmps56
  go_wp2_with fail
  go_loopw [0, 3] (fun k s wr => ∃ (n : Nat) (acc : ByteArray), n ≤ m ∧ k = .int .i64 (n : Int) ∧ s = .string acc ∧ acc.size ≤ 10 ∧ n * 10 ^ acc.size ≤ m ∧ dig n acc = dig m ⟨#[]⟩ ∧ Below w.heap.size w wr) (fun k _ _ => (intOf k).toNat)
  case atStart => exact ⟨m, ⟨#[]⟩, Nat.le_refl _, rfl, rfl, by decide, by simp [show (⟨#[]⟩ : ByteArray).size = 0 from rfl], rfl, Below.refl _ _⟩
  case round =>
    obtain ⟨n, acc, hn, rfl, rfl, hs1, hs2, hd, hb⟩ := hrel
    have HD := hid hd
    clear hd
    by_cases hz : 0 < n
    · have hz1 : (n : Int) > 0 := by omega
      have hmod : 0 ≤ (n : Int) % 10 ∧ (n : Int) % 10 ≤ 9 := by omega
      obtain ⟨hm0, hm1⟩ := hmod
      have hcv := conv_digit n wr
      have hs3 := size_small hz (by omega) hs2
      have HS2 := hid hs2
      clear hs2
      go_wp2_with fail
      go_roundw
      case rel => exact ⟨n / 10, _, by omega, by go_num, rfl, by rw [size_one]; omega, by rw [size_one]; exact pow_step HS2.out, by rw [← HD.out, dig_pos hz]; simp, hb.alloc (by have := hb.size; omega) _⟩
      case measure => simp [intOf]; omega
    · have hn0 : n = 0 := by omega
      have hz1 : ¬ (n : Int) > 0 := by omega
      have HZ := hid hn0
      clear hn0
      go_wp2_with fail
      go_ret
      exact ⟨by rw [mtx, ← HD.out, HZ.out, dig_zero]; rfl, by rw [mtx, ← HD.out, HZ.out, dig_zero, size_one]; omega, hb⟩

theorem markText_at (m : Nat) (n : Int) (hn : n = (m : Int)) (h0 : 0 < m) (h1 : m ≤ 2147483648) (w : World) : Calls Tryd.prog 56 #[.int .i64 n] w fun e w' => e = .returned (.string (mtx m)) ∧ (mtx m).size ≤ 11 ∧ Below w.heap.size w w' := by
  subst hn
  exact markText_any m h0 h1 w

mutual
/-- How many numbers the marks of a term take below its root. -/
def Tm.num : Tm → Nat
  | .mk _ _ _ ty fr _ ts => ty.cnt + fr.cnt + numL ts
def numL : List Tm → Nat
  | [] => 0
  | t :: ts => 6 + t.num + numL ts
end

/-- How many numbers the nodes below a type's root take. -/
def cK (t : Ty) : Int := ((Ty.mk 0 (kidsT t)).cnt : Int)

mutual
/-- The terms of a slice, marked from a number on. -/
def mkML : List Tm → Nat → List Tm
  | [], _ => []
  | .mk _ _ _ ty fr _ ts :: r, m => .mk (m : Int) (mtx (m + 1)) ((m : Int) + 1 + 1) (.mk ((m : Int) + 1 + 1 + 1) (mkL (kidsT ty) ((m : Int) + 1 + 1 + 1 + 1))) (.mk ((m : Int) + 1 + 1 + 1 + 1 + cK ty) (mkL (kidsT fr) ((m : Int) + 1 + 1 + 1 + 1 + cK ty + 1))) ((m : Int) + 1 + 1 + 1 + 1 + cK ty + 1 + cK fr) (mkML ts (m + 6 + ty.cnt + fr.cnt)) :: mkML r (m + (6 + (ty.cnt + fr.cnt + numL ts)))
end

/-- One term, marked. -/
def mk1 : Tm → Nat → Tm
  | .mk _ _ _ ty fr _ ts, m => .mk (m : Int) (mtx (m + 1)) ((m : Int) + 1 + 1) (.mk ((m : Int) + 1 + 1 + 1) (mkL (kidsT ty) ((m : Int) + 1 + 1 + 1 + 1))) (.mk ((m : Int) + 1 + 1 + 1 + 1 + cK ty) (mkL (kidsT fr) ((m : Int) + 1 + 1 + 1 + 1 + cK ty + 1))) ((m : Int) + 1 + 1 + 1 + 1 + cK ty + 1 + cK fr) (mkML ts (m + 6 + ty.cnt + fr.cnt))

theorem mkML_cons (t : Tm) (r : List Tm) (m : Nat) : mkML (t :: r) m = mk1 t m :: mkML r (m + (6 + t.num)) := by
  cases t
  simp only [mkML, mk1, Tm.num]

theorem mkML_len : ∀ (ts : List Tm) (m : Nat), (mkML ts m).length = ts.length
  | [], _ => by simp only [mkML]
  | t :: ts, m => by rw [mkML_cons, List.length_cons, mkML_len ts, List.length_cons]

/-- How many numbers the first j terms take. -/
def offM : List Tm → Nat → Nat
  | [], _ => 0
  | _ :: _, 0 => 0
  | t :: ts, j + 1 => 6 + t.num + offM ts j

theorem offM_zero (ts : List Tm) : offM ts 0 = 0 := by cases ts <;> rfl

theorem offM_all : ∀ ts : List Tm, offM ts ts.length = numL ts
  | [] => rfl
  | t :: ts => by simp only [List.length_cons, offM, numL, offM_all ts]

theorem offM_succ : ∀ {ts : List Tm} {j : Nat} (h : j < ts.length), offM ts (j + 1) = offM ts j + (6 + ts[j].num)
  | t :: ts, 0, _ => by simp only [offM, offM_zero, List.getElem_cons_zero]; omega
  | t :: ts, j + 1, h => by
    have := offM_succ (ts := ts) (j := j) (by simpa using h)
    simp only [offM, this, List.getElem_cons_succ]
    omega

theorem offM_bd : ∀ (ts : List Tm) (j : Nat), offM ts j ≤ numL ts
  | [], j => by simp [offM]
  | t :: ts, 0 => by simp [offM]
  | t :: ts, j + 1 => by
    have := offM_bd ts j
    simp only [offM, numL]
    omega

theorem mkML_get : ∀ {ts : List Tm} {m j : Nat} (h : j < ts.length) (h' : j < (mkML ts m).length), (mkML ts m)[j] = mk1 ts[j] (m + offM ts j)
  | t :: ts, m, 0, _, _ => by simp [mkML_cons, offM]
  | t :: ts, m, j + 1, h, h' => by
    have e := mkML_get (ts := ts) (m := m + (6 + t.num)) (j := j) (by simpa using h) (by rw [mkML_len]; simpa using h)
    simp only [mkML_cons, List.getElem_cons_succ, offM]
    rw [e, show m + (6 + t.num) + offM ts j = m + (6 + t.num + offM ts j) by omega]

/-- A row of cells. -/
def RowIs (w : World) (b off : Nat) (L : List Value) : Prop := ∀ i, i < L.length → w.cell? ⟨b, off + i, none⟩ = L[i]?

theorem RowIs.set {w : World} {b off p : Nat} {L : List Value} (h : RowIs w b off L) (hp : p < L.length) (v : Value) : RowIs (w.setCell ⟨b, off + p, none⟩ v) b off (L.set p v) := by
  intro i hi
  rw [List.length_set] at hi
  by_cases e : i = p
  · subst e
    have := h i hi
    rw [List.getElem?_eq_getElem hi] at this
    rw [cell_setCell_self this, List.getElem?_set_self hi]
  · rw [cell_setCell_other (by omega), h i hi, List.getElem?_set_ne (fun x => e x.symm)]

theorem RowIs.only {w w' : World} {b off : Nat} {L : List Value} {g : List Nat} (h : RowIs w b off L) (hg : Only g w w') (hb : b ∉ g) (hlt : b < w.heap.size) : RowIs w' b off L :=
  fun i hi => (World.cell?_of_block (w := w) (a := ⟨b, off + i, none⟩) (hg.block b hlt hb)).trans (h i hi)

theorem RowIs.below {w w' : World} {b off : Nat} {L : List Value} (h : RowIs w b off L) (hb : Below w.heap.size w w') (hlt : b < w.heap.size) : RowIs w' b off L :=
  fun i hi => (hb.cell (p := ⟨b, off + i, none⟩) hlt).trans (h i hi)

/-- A row of nine, cell by cell. -/
theorem RowIs.cells {w : World} {b off : Nat} {x0 x1 x2 x3 x4 x5 x6 x7 x8 : Value} (h : RowIs w b off [x0, x1, x2, x3, x4, x5, x6, x7, x8]) :
    w.cell? ⟨b, off, none⟩ = some x0 ∧ w.cell? ⟨b, off + 1, none⟩ = some x1 ∧ w.cell? ⟨b, off + 2, none⟩ = some x2 ∧ w.cell? ⟨b, off + 3, none⟩ = some x3 ∧ w.cell? ⟨b, off + 4, none⟩ = some x4 ∧ w.cell? ⟨b, off + 5, none⟩ = some x5 ∧ w.cell? ⟨b, off + 6, none⟩ = some x6 ∧ w.cell? ⟨b, off + 7, none⟩ = some x7 ∧ w.cell? ⟨b, off + 8, none⟩ = some x8 :=
  ⟨h 0 (by simp), h 1 (by simp), h 2 (by simp), h 3 (by simp), h 4 (by simp), h 5 (by simp), h 6 (by simp), h 7 (by simp), h 8 (by simp)⟩

/-- Element i of a row of terms. -/
def ElemM (w : World) (b o i : Nat) (t : Tm) (f : List Nat) : Prop := ∃ L, L.length = 9 ∧ RowIs w b (o + i * 9) L ∧ Tm.At w t (.agg L.toArray) f

theorem atML_idx {w : World} {b : Nat} : ∀ {ts : List Tm} {o : Nat} {fp : List Nat}, Tm.AtL w ts b o fp → ∃ fps : List (List Nat), fps.length = ts.length ∧ fps.flatten = fp ∧ ∀ i (h : i < ts.length) (h' : i < fps.length), ElemM w b o i ts[i] fps[i]
  | [], o, fp, h => ⟨[], rfl, by simp only [Tm.AtL] at h; rw [h]; rfl, fun i h => by simp at h⟩
  | t :: ts, o, fp, h => by
    simp only [Tm.AtL] at h
    obtain ⟨cs, f1, f2, hc, ha, hl, rfl⟩ := h
    obtain ⟨fps, h1, h2, h3⟩ := atML_idx hl
    refine ⟨f1 :: fps, by simp [h1], by simp [h2], fun i hi hi' => ?_⟩
    cases i with
    | zero =>
      have h9 := Tm.size9 ha
      refine ⟨cs.toList, by simpa using h9, fun i hi => ?_, by simpa using ha⟩
      rw [Nat.zero_mul, Nat.add_zero, hc i (by simp at hi; omega)]
      simp
    | succ i =>
      obtain ⟨L, e0, e1, e2⟩ := h3 i (by simpa using hi) (by simpa using hi')
      exact ⟨L, e0, by rw [show o + (i + 1) * 9 = o + 9 + i * 9 by omega]; exact e1, e2⟩

theorem idx_atML {w : World} {b : Nat} : ∀ {ts : List Tm} {o : Nat} {fps : List (List Nat)}, fps.length = ts.length → (∀ i (h : i < ts.length) (h' : i < fps.length), ElemM w b o i ts[i] fps[i]) → Tm.AtL w ts b o fps.flatten
  | [], o, [], _, _ => by simp [Tm.AtL]
  | t :: ts, o, f :: fps, hl, h => by
    obtain ⟨L, e0, e1, e2⟩ := h 0 (by simp) (by simp)
    simp only [Tm.AtL]
    refine ⟨L.toArray, f, fps.flatten, fun i hi => ?_, e2, idx_atML (by simpa using hl) (fun i hi hi' => ?_), by simp⟩
    · have := e1 i (by omega)
      rw [Nat.zero_mul, Nat.add_zero] at this
      rw [this]
      simp
    · obtain ⟨L, e0, e1, e2⟩ := h (i + 1) (by simpa using hi) (by simpa using hi')
      exact ⟨L, e0, by rw [show o + 9 + i * 9 = o + (i + 1) * 9 by omega]; exact e1, e2⟩

/-- In block b only the cells from lo to hi, else only blocks of g. -/
structure RowOnly (b lo hi : Nat) (g : List Nat) (w w' : World) : Prop where
  only : Only (b :: g) w w'
  row : ∀ o, (o < lo ∨ hi ≤ o) → w'.cell? ⟨b, o, none⟩ = w.cell? ⟨b, o, none⟩

theorem RowOnly.refl (b lo hi : Nat) (g : List Nat) (w : World) : RowOnly b lo hi g w w := ⟨Only.refl _ _, fun _ _ => rfl⟩

theorem RowOnly.trans {b lo hi : Nat} {g : List Nat} {x y z : World} (h : RowOnly b lo hi g x y) (k : RowOnly b lo hi g y z) : RowOnly b lo hi g x z := ⟨h.only.trans k.only, fun o ho => (k.row o ho).trans (h.row o ho)⟩

theorem RowOnly.set {b lo hi : Nat} {g : List Nat} {x y : World} (h : RowOnly b lo hi g x y) {o : Nat} (h1 : lo ≤ o) (h2 : o < hi) (v : Value) : RowOnly b lo hi g x (y.setCell ⟨b, o, none⟩ v) :=
  h.trans ⟨Only.setCell (by simp) v, fun o' ho => cell_setCell_other (by omega) v⟩

theorem RowOnly.call {b lo hi : Nat} {g g' : List Nat} {x y z : World} (h : RowOnly b lo hi g x y) (hg : Only g' y z) (hs : ∀ a ∈ g', a ∈ g) (hb : b ∉ g') (hlt : b < x.heap.size) : RowOnly b lo hi g x z :=
  h.trans ⟨hg.sub (fun a ha => List.mem_cons_of_mem _ (hs a ha)), fun o _ => World.cell?_of_block (w := y) (a := ⟨b, o, none⟩) (hg.block b (Nat.lt_of_lt_of_le hlt h.only.size) hb)⟩

theorem ElemM.rowOnly {b o i j : Nat} {g : List Nat} {w w' : World} {t : Tm} {f : List Nat} (h : ElemM w b o i t f) (hr : RowOnly b (o + j * 9) (o + j * 9 + 9) g w w') (hne : i ≠ j) (hb : b ∉ f) (hd : ∀ x ∈ f, x ∉ g) : ElemM w' b o i t f := by
  obtain ⟨L, e0, e1, e2⟩ := h
  refine ⟨L, e0, fun k hk => ?_, e2.congr (fun x hx o' => World.cell?_of_block (w := w) (a := ⟨x, o', none⟩) (hr.only.block x (e2.lt x hx) ?_))⟩
  · rw [hr.row _ (by omega)]
    exact e1 k hk
  · intro hm
    rcases List.mem_cons.1 hm with rfl | hm
    · exact hb hx
    · exact hd x hx hm

theorem SlAt.setB {w : World} {ts : List Ty} {s : Value} {fp : List Nat} {b : Nat} (h : SlAt w ts s fp) (hb : b ∉ fp) (o : Nat) (v : Value) : SlAt (w.setCell ⟨b, o, none⟩ v) ts s fp :=
  h.congr fun x hx o' => cell_setCell_ne _ _ _ _ _ (fun e => hb (by rw [← show x = b from e]; exact hx))

theorem SmAt.setB {w : World} {ts : List Tm} {s : Value} {fp : List Nat} {b : Nat} (h : SmAt w ts s fp) (hb : b ∉ fp) (o : Nat) (v : Value) : SmAt (w.setCell ⟨b, o, none⟩ v) ts s fp :=
  h.congr fun x hx o' => cell_setCell_ne _ _ _ _ _ (fun e => hb (by rw [← show x = b from e]; exact hx))

theorem SlAt.onlyD {w w' : World} {ts : List Ty} {s : Value} {fp g : List Nat} (h : SlAt w ts s fp) (hg : Only g w w') (hd : ∀ x ∈ fp, x ∉ g) : SlAt w' ts s fp :=
  h.congr fun x hx o' => World.cell?_of_block (w := w) (a := ⟨x, o', none⟩) (hg.block x (h.lt x hx) (hd x hx))

theorem SmAt.onlyD {w w' : World} {ts : List Tm} {s : Value} {fp g : List Nat} (h : SmAt w ts s fp) (hg : Only g w w') (hd : ∀ x ∈ fp, x ∉ g) : SmAt w' ts s fp :=
  h.congr fun x hx o' => World.cell?_of_block (w := w) (a := ⟨x, o', none⟩) (hg.block x (h.lt x hx) (hd x hx))

/-- What the marking of a slice of terms says. -/
def MkMC (ts : List Tm) : Prop := ∀ (s : Value) (fp : List Nat) (m : Nat) (n : Int) (w : World), SmAt w ts s fp → fp.Nodup → (∀ b ∈ fp, ∀ o, w.frozen? ⟨b, o, none⟩ = false) → n = (m : Int) → m + numL ts ≤ 1073741824 →
  Calls Tryd.prog 33 #[s, .int .i64 n] w fun e w' => e = .returned (.int .i64 ((m + numL ts : Nat) : Int)) ∧ SmAt w' (mkML ts m) s fp ∧ Only fp w w'

/-- Which terms stand in the row behind j rounds. -/
def partM (ts : List Tm) (m j i : Nat) : Tm := if i < j then (mkML ts m)[i]?.getD (.mk 0 ⟨#[]⟩ 0 (.mk 0 []) (.mk 0 []) 0 []) else ts[i]?.getD (.mk 0 ⟨#[]⟩ 0 (.mk 0 []) (.mk 0 []) 0 [])

theorem partM_at {ts : List Tm} {m j : Nat} (h : j < ts.length) : partM ts m (j + 1) j = mk1 ts[j] (m + offM ts j) := by
  have h' : j < (mkML ts m).length := by rw [mkML_len]; exact h
  rw [partM, if_pos (by omega), List.getElem?_eq_getElem h', Option.getD_some, mkML_get h h']

theorem partM_now {ts : List Tm} {m j : Nat} (h : j < ts.length) : partM ts m j j = ts[j] := by
  rw [partM, if_neg (by omega), List.getElem?_eq_getElem h, Option.getD_some]

theorem partM_other {ts : List Tm} {m i j : Nat} (h : i ≠ j) : partM ts m (j + 1) i = partM ts m j i := by
  unfold partM
  by_cases hi : i < j
  · rw [if_pos hi, if_pos (by omega)]
  · rw [if_neg hi, if_neg (by omega)]

def tkids : Tm → List Tm
  | .mk _ _ _ _ _ _ ts => ts

set_option maxRecDepth 100000 in
set_option maxHeartbeats 8000000 in
theorem markTermS_of (ts : List Tm) (ih : ∀ t ∈ ts, MkMC (tkids t)) : MkMC ts := by
  intro s fp m n w hs hnd hfz hn hm1
  subst hn
  have HIH := hid ih
  clear ih
  rcases hs with ⟨rfl, rfl, a, cap, rfl⟩ | ⟨b, o, cap, f, rfl, hp, hc, hm, hl, rfl⟩
  · go_enter Tryd.func33, Tryd.ntmps33
    go_wp2_with fail
    go_loop [1, 5] (fun k i => k = .int .i64 (m : Int) ∧ i = .int .i64 0) (fun _ _ => 0)
    case atStart => exact ⟨rfl, rfl⟩
    case round =>
      obtain ⟨rfl, rfl⟩ := hrel
      go_wp2_with fail
      go_ret
      exact ⟨ret_i (by simp [numL]), .inl ⟨by simp only [mkML], rfl, a, cap, rfl⟩, Only.refl _ _⟩
  · unfold maxLen at hm
    obtain ⟨fps, hfl, rfl, hel⟩ := atML_idx hl
    obtain ⟨hbn, hnf⟩ := List.nodup_cons.1 hnd
    have HEL := hid hel
    have HND := hid hnf
    have HBN := hid hbn
    have HFZ := hid hfz
    have HFL := hid hfl
    have hblt : b < w.heap.size := by
      obtain ⟨L, e0, e1, _⟩ := hel 0 hp (by omega)
      have := e1 0 (by omega)
      rw [List.getElem?_eq_getElem (by omega)] at this
      exact World.block_lt_of_cell? _ _ this
    have hzb : ∀ o, w.frozen? ⟨b, o, none⟩ = false := hfz b (by simp)
    have HZB := hid hzb
    have HM1 := hid hm1
    clear hel hbn hnf hnd hfz hl hfl hzb hm1
    go_enter Tryd.func33, Tryd.ntmps33
    go_wp2_with fail
    go_loopw [1, 5] (fun k i wr => ∃ (j M : Nat), j ≤ ts.length ∧ M = m + offM ts j ∧ i = .int .i64 j ∧ k = .int .i64 (M : Int) ∧ Only (b :: fps.flatten) w wr ∧ ∀ i (h : i < ts.length) (h' : i < fps.length), ElemM wr b o i (partM ts m j i) fps[i])
      (fun _ i _ => ts.length - (intOf i).toNat)
    case atStart =>
      refine ⟨0, m, Nat.zero_le _, by rw [offM_zero]; rfl, rfl, rfl, Only.refl _ _, fun i h h' => ?_⟩
      have := HEL.out i h h'
      simpa [partM, List.getElem?_eq_getElem h] using this
    case round =>
      obtain ⟨j, M, hj, hM, rfl, rfl, hon, hel⟩ := hrel
      by_cases hlk : j < ts.length
      · have hjf : j < fps.length := by rw [HFL.out]; exact hlk
        obtain ⟨L, hL, hrow, hat⟩ := hel j hlk hjf
        rw [partM_now hlk] at hat
        obtain ⟨k, nm, num, ty, fr, lb, kids, htj⟩ := (ts[j]).shape
        have HTJ := hid htj
        rw [htj] at hat
        obtain ⟨ky, us, rfl⟩ := ty.shape
        obtain ⟨kf, vs, rfl⟩ := fr.shape
        obtain ⟨k1, s1, k2, s2, s3, f1, f2, f3, hv, _, ht1, ht2, hfj, hs3⟩ := Tm.at_mk.1 hat
        obtain ⟨s1', e1, hs1⟩ := Ty.at_mk.1 ht1
        obtain ⟨s2', e2, hs2⟩ := Ty.at_mk.1 ht2
        simp only [Value.agg.injEq, Array.mk.injEq, List.cons.injEq, and_true] at e1 e2
        obtain ⟨rfl, rfl⟩ := e1
        obtain ⟨rfl, rfl⟩ := e2
        obtain ⟨L, rfl⟩ : ∃ L' : List Value, L = L' := ⟨_, rfl⟩
        have hLL : L = [.int .i64 k, .string nm, .int .i64 num, .int .i64 ky, s1, .int .i64 kf, s2, .int .i64 lb, s3] := by
          have := congrArg Array.toList (Value.agg.inj hv)
          simpa using this
        subst hLL
        obtain ⟨a1, d1, hsh1⟩ := hs1.shape
        obtain ⟨a2, d2, hsh2⟩ := hs2.shape
        obtain ⟨a3, d3, hsh3⟩ := hs3.shape
        subst hsh1 hsh2 hsh3
        have hbf : ∀ x ∈ fps[j], x ≠ b := fun x hx e => HBN.out (by rw [← e]; exact flatten_sub hjf x hx)
        have hndj := flatten_nodup hjf HND.out
        rw [hfj] at hndj
        have hb1 : b ∉ f1 := fun hx => hbf b (by rw [hfj]; simp [hx]) rfl
        have hb2 : b ∉ f2 := fun hx => hbf b (by rw [hfj]; simp [hx]) rfl
        have hb3 : b ∉ f3 := fun hx => hbf b (by rw [hfj]; simp [hx]) rfl
        obtain ⟨nd1, nd23, d123⟩ := List.nodup_append.1 hndj
        obtain ⟨nd2, nd3, d23⟩ := List.nodup_append.1 nd23
        have hltr : b < wr.heap.size := Nat.lt_of_lt_of_le hblt hon.size
        have hzr : ∀ o', wr.frozen? ⟨b, o', none⟩ = false := fun o' => (hon.frozen b o' hblt).trans (HZB.out o')
        have hzf : ∀ x ∈ fps[j], ∀ o', wr.frozen? ⟨x, o', none⟩ = false := fun x hx o' => by
          obtain ⟨_, _, _, hat0⟩ := HEL.out j hlk hjf
          rw [hon.frozen x o' (hat0.lt x hx)]
          exact HFZ.out x (List.mem_cons_of_mem _ (flatten_sub hjf x hx)) o'
        have hnum : ts[j].num = (Ty.mk 0 us).cnt + (Ty.mk 0 vs).cnt + numL kids := by rw [htj, Tm.num, cnt_any ky 0 us, cnt_any kf 0 vs]
        have hofs := offM_succ hlk
        have hbd := offM_bd ts (j + 1)
        have hM3 : M + 6 + (Ty.mk 0 us).cnt + (Ty.mk 0 vs).cnt + numL kids ≤ 1073741824 := by have := HM1.out; omega
        have HNUM := hid hnum
        have HOFS := hid hofs
        have HEL2 := hid hel
        have HON := hid hon
        have HZF := hid hzf
        have HFJ := hid hfj
        have HNDJ := hid hndj
        have HM := hid hM
        have HD1 := hid d123
        have HD2 := hid d23
        clear hel hnum hofs hbd hzf hv hat hfj hndj nd23 d123 d23 htj hL hon ht1 ht2 hM
        obtain ⟨c0, c1, c2, c3, c4, c5, c6, c7, c8⟩ := hrow.cells
        go_wp2_with fail
        refine (markText_at (M + 1) _ (by simp) (by omega) (by omega) _).mono ?_
        rintro e w1 ⟨rfl, hnsz, hbl1⟩
        have R1 : RowIs w1 b (o + j * 9) [.int .i64 (M : Int), .string nm, .int .i64 num, .int .i64 ky, .slice a1 us.length d1, .int .i64 kf, .slice a2 vs.length d2, .int .i64 lb, .slice a3 kids.length d3] := (hrow.set (p := 0) (by simp) (.int .i64 (M : Int))).below hbl1 (by rw [size_setCell]; exact hltr)
        have RO1 : RowOnly b (o + j * 9) (o + j * 9 + 9) fps[j] wr w1 := ((RowOnly.refl b (o + j * 9) (o + j * 9 + 9) fps[j] wr).set (o := o + j * 9) (Nat.le_refl _) (by omega) (.int .i64 (M : Int))).call (only_of_below (fp := []) hbl1) (by simp) (by simp) hltr
        have q1 := (hs1.setB hb1 (o + j * 9) (.int .i64 (M : Int))).below hbl1
        have q2 := (hs2.setB hb2 (o + j * 9) (.int .i64 (M : Int))).below hbl1
        have q3 := (hs3.setB hb3 (o + j * 9) (.int .i64 (M : Int))).below hbl1
        have hlt1 := hs1.lt
        have hlt2 := hs2.lt
        have hlt3 := hs3.lt
        clear c0 c1 c2 c3 c4 c5 c6 c7 c8 hrow hs1 hs2 hs3 hbl1
        obtain ⟨c0, c1, c2, c3, c4, c5, c6, c7, c8⟩ := R1.cells
        have z1 : ∀ o', w1.frozen? ⟨b, o', none⟩ = false := fun o' => (RO1.only.frozen b o' hltr).trans (hzr o')
        go_wp2_with fail
        have hsub1 : ∀ x ∈ f1, x ∈ fps[j] := fun x hx => by rw [HFJ.out]; simp [hx]
        have hsub2 : ∀ x ∈ f2, x ∈ fps[j] := fun x hx => by rw [HFJ.out]; simp [hx]
        have hsub3 : ∀ x ∈ f3, x ∈ fps[j] := fun x hx => by rw [HFJ.out]; simp [hx]
        refine (markTypeS_any us _ f1 _ _ (((q1.setB hb1 _ _).setB hb1 _ _).setB hb1 _ _) nd1 ?_ (by omega) (by omega)).mono ?_
        · intro x hx o'
          simp only [frozen_setCell]
          rw [RO1.only.frozen x o' (hlt1 x hx)]
          exact HZF.out x (hsub1 x hx) o'
        rintro e w2 ⟨rfl, r1, on2⟩
        have hlt1w : b < w1.heap.size := Nat.lt_of_lt_of_le hltr RO1.only.size
        have R2 : RowIs w2 b (o + j * 9) [.int .i64 (M : Int), .string (mtx (M + 1)), .int .i64 ((M : Int) + 1 + 1), .int .i64 ((M : Int) + 1 + 1 + 1), .slice a1 us.length d1, .int .i64 kf, .slice a2 vs.length d2, .int .i64 lb, .slice a3 kids.length d3] :=
          RowIs.only (RowIs.set (p := 3) (RowIs.set (p := 2) (RowIs.set (p := 1) R1 (by simp) (.string (mtx (M + 1)))) (by simp) (.int .i64 ((M : Int) + 1 + 1))) (by simp) (.int .i64 ((M : Int) + 1 + 1 + 1))) on2 hb1 (by simp only [size_setCell]; exact hlt1w)
        have RO2 : RowOnly b (o + j * 9) (o + j * 9 + 9) fps[j] wr w2 := (((RO1.set (o := o + j * 9 + 1) (by omega) (by omega) (.string (mtx (M + 1)))).set (o := o + j * 9 + 2) (by omega) (by omega) (.int .i64 ((M : Int) + 1 + 1))).set (o := o + j * 9 + 3) (by omega) (by omega) (.int .i64 ((M : Int) + 1 + 1 + 1))).call on2 hsub1 hb1 hltr
        have q2' := (((q2.setB hb2 (o + j * 9 + 1) (.string (mtx (M + 1)))).setB hb2 (o + j * 9 + 2) (.int .i64 ((M : Int) + 1 + 1))).setB hb2 (o + j * 9 + 3) (.int .i64 ((M : Int) + 1 + 1 + 1))).onlyD on2 (fun x hx hx' => HD1.out x hx' x (List.mem_append_left _ hx) rfl)
        have q3' := (((q3.setB hb3 (o + j * 9 + 1) (.string (mtx (M + 1)))).setB hb3 (o + j * 9 + 2) (.int .i64 ((M : Int) + 1 + 1))).setB hb3 (o + j * 9 + 3) (.int .i64 ((M : Int) + 1 + 1 + 1))).onlyD on2 (fun x hx hx' => HD1.out x hx' x (List.mem_append_right _ hx) rfl)
        clear c0 c1 c2 c3 c4 c5 c6 c7 c8 z1 R1 RO1 q1 q2 q3 on2
        obtain ⟨c0, c1, c2, c3, c4, c5, c6, c7, c8⟩ := R2.cells
        have z1 : ∀ o', w2.frozen? ⟨b, o', none⟩ = false := fun o' => (RO2.only.frozen b o' hltr).trans (hzr o')
        go_wp2_with fail
        refine (markTypeS_any vs _ f2 _ _ (q2'.setB hb2 _ _) nd2 ?_ (by omega) (by omega)).mono ?_
        · intro x hx o'
          simp only [frozen_setCell]
          rw [RO2.only.frozen x o' (hlt2 x hx)]
          exact HZF.out x (hsub2 x hx) o'
        rintro e w3 ⟨rfl, r2, on3⟩
        have hlt2w : b < w2.heap.size := Nat.lt_of_lt_of_le hltr RO2.only.size
        have R3 : RowIs w3 b (o + j * 9) [.int .i64 (M : Int), .string (mtx (M + 1)), .int .i64 ((M : Int) + 1 + 1), .int .i64 ((M : Int) + 1 + 1 + 1), .slice a1 us.length d1, .int .i64 ((M : Int) + 1 + 1 + 1 + 1 + ((Ty.mk 0 us).cnt : Int)), .slice a2 vs.length d2, .int .i64 lb, .slice a3 kids.length d3] :=
          RowIs.only (RowIs.set (p := 5) R2 (by simp) (.int .i64 ((M : Int) + 1 + 1 + 1 + 1 + ((Ty.mk 0 us).cnt : Int)))) on3 hb2 (by simp only [size_setCell]; exact hlt2w)
        have RO3 : RowOnly b (o + j * 9) (o + j * 9 + 9) fps[j] wr w3 := (RO2.set (o := o + j * 9 + 5) (by omega) (by omega) (.int .i64 ((M : Int) + 1 + 1 + 1 + 1 + ((Ty.mk 0 us).cnt : Int)))).call on3 hsub2 hb2 hltr
        have r1' := (r1.setB hb1 (o + j * 9 + 5) (.int .i64 ((M : Int) + 1 + 1 + 1 + 1 + ((Ty.mk 0 us).cnt : Int)))).onlyD on3 (fun x hx hx' => HD1.out x hx x (List.mem_append_left _ hx') rfl)
        have q3'' := (q3'.setB hb3 (o + j * 9 + 5) (.int .i64 ((M : Int) + 1 + 1 + 1 + 1 + ((Ty.mk 0 us).cnt : Int)))).onlyD on3 (fun x hx hx' => HD2.out x hx' x hx rfl)
        clear c0 c1 c2 c3 c4 c5 c6 c7 c8 z1 R2 RO2 q2' q3' r1 on3
        obtain ⟨c0, c1, c2, c3, c4, c5, c6, c7, c8⟩ := R3.cells
        have z1 : ∀ o', w3.frozen? ⟨b, o', none⟩ = false := fun o' => (RO3.only.frozen b o' hltr).trans (hzr o')
        have hkids : MkMC kids := by
          have := HIH.out _ (List.getElem_mem hlk)
          rw [HTJ.out] at this
          exact this
        have HK := hid hkids
        clear hkids
        go_wp2_with fail
        refine (HK.out _ f3 (M + 6 + (Ty.mk 0 us).cnt + (Ty.mk 0 vs).cnt) _ _ (q3''.setB hb3 _ _) nd3 ?_ (by push_cast; omega) (by omega)).mono ?_
        · intro x hx o'
          simp only [frozen_setCell]
          rw [RO3.only.frozen x o' (hlt3 x hx)]
          exact HZF.out x (hsub3 x hx) o'
        rintro e w4 ⟨rfl, r3, on4⟩
        have hlt3w : b < w3.heap.size := Nat.lt_of_lt_of_le hltr RO3.only.size
        have R4 : RowIs w4 b (o + j * 9) [.int .i64 (M : Int), .string (mtx (M + 1)), .int .i64 ((M : Int) + 1 + 1), .int .i64 ((M : Int) + 1 + 1 + 1), .slice a1 us.length d1, .int .i64 ((M : Int) + 1 + 1 + 1 + 1 + ((Ty.mk 0 us).cnt : Int)), .slice a2 vs.length d2, .int .i64 ((M : Int) + 1 + 1 + 1 + 1 + ((Ty.mk 0 us).cnt : Int) + 1 + ((Ty.mk 0 vs).cnt : Int)), .slice a3 kids.length d3] :=
          RowIs.only (RowIs.set (p := 7) R3 (by simp) (.int .i64 ((M : Int) + 1 + 1 + 1 + 1 + ((Ty.mk 0 us).cnt : Int) + 1 + ((Ty.mk 0 vs).cnt : Int)))) on4 hb3 (by simp only [size_setCell]; exact hlt3w)
        have RO4 : RowOnly b (o + j * 9) (o + j * 9 + 9) fps[j] wr w4 := (RO3.set (o := o + j * 9 + 7) (by omega) (by omega) (.int .i64 ((M : Int) + 1 + 1 + 1 + 1 + ((Ty.mk 0 us).cnt : Int) + 1 + ((Ty.mk 0 vs).cnt : Int)))).call on4 hsub3 hb3 hltr
        have r1'' := (r1'.setB hb1 (o + j * 9 + 7) (.int .i64 ((M : Int) + 1 + 1 + 1 + 1 + ((Ty.mk 0 us).cnt : Int) + 1 + ((Ty.mk 0 vs).cnt : Int)))).onlyD on4 (fun x hx hx' => HD1.out x hx x (List.mem_append_right _ hx') rfl)
        have r2' := (r2.setB hb2 (o + j * 9 + 7) (.int .i64 ((M : Int) + 1 + 1 + 1 + 1 + ((Ty.mk 0 us).cnt : Int) + 1 + ((Ty.mk 0 vs).cnt : Int)))).onlyD on4 (fun x hx hx' => HD2.out x hx x hx' rfl)
        have HEJ := hid (show ElemM w4 b o j (partM ts m (j + 1) j) fps[j] by
          rw [partM_at hlk, ← HM.out, HTJ.out]
          refine ⟨_, rfl, R4, ?_⟩
          simp only [mk1]
          rw [cnt_any ky 0 us, cnt_any kf 0 vs]
          exact Tm.at_mk.2 ⟨_, _, _, _, _, f1, f2, f3, rfl, by unfold maxLen; omega, Ty.at_mk.2 ⟨_, rfl, r1''⟩, Ty.at_mk.2 ⟨_, rfl, r2'⟩, HFJ.out, r3⟩)
        have HEO := hid (show ∀ i (h : i < ts.length) (h' : i < fps.length), i ≠ j → ElemM w4 b o i (partM ts m (j + 1) i) fps[i] from fun i h h' hne => by
          rw [partM_other hne]
          exact (HEL2.out i h h').rowOnly RO4 hne (fun hx => HBN.out (flatten_sub h' b hx)) (flatten_apart h' hjf HND.out hne))
        have HON2 := hid (HON.out.trans (RO4.only.sub (fun x hx => by
          rcases List.mem_cons.1 hx with rfl | hx
          · simp
          · exact List.mem_cons_of_mem _ (flatten_sub hjf x hx))))
        clear c0 c1 c2 c3 c4 c5 c6 c7 c8 z1 R3 RO3 R4 RO4 q3'' r1' r2 r1'' r2' r3 on4
        go_wp2_with fail
        refine ⟨⟨j + 1, M + 6 + (Ty.mk 0 us).cnt + (Ty.mk 0 vs).cnt + numL kids, by omega, by have := HM.out; have := HOFS.out; have := HNUM.out; omega, by go_num, rfl, HON2.out, fun i h h' => ?_⟩, by simp [intOf]; omega⟩
        by_cases hij : i = j
        · subst hij
          exact HEJ.out
        · exact HEO.out i h h' hij
      · have hjl : j = ts.length := by omega
        have HE := hid hel
        have HON := hid hon
        have HM := hid hM
        clear hel hon hM
        go_wp2_with fail
        go_ret
        refine ⟨ret_i (by rw [HM.out, hjl, offM_all]), .inr ⟨b, o, cap, fps.flatten, by rw [mkML_len], by rw [mkML_len]; exact hp, by rw [mkML_len]; exact hc, by rw [mkML_len]; unfold maxLen; omega, idx_atML (by rw [mkML_len]; exact HFL.out) (fun i h h' => ?_), rfl⟩, HON.out⟩
        have hi : i < ts.length := by rw [mkML_len] at h; exact h
        have := HE.out i hi h'
        rw [partM, if_pos (by omega), List.getElem?_eq_getElem h] at this
        exact this

theorem markTermS_any (ts : List Tm) : MkMC ts := by
  have h : ∀ t : Tm, MkMC (tkids t) := Tm.ind fun k nm num ty fr lb ts ih => markTermS_of ts ih
  exact h (.mk 0 ⟨#[]⟩ 0 (.mk 0 []) (.mk 0 []) 0 ts)

/-- A term with all below its root marked. -/
def mkR : Tm → Nat → Tm
  | .mk k nm num ty fr lb ts, m => .mk k nm num (mkT ty (m : Int)) (mkT fr ((m : Int) + (ty.cnt : Int))) lb (mkML ts (m + ty.cnt + fr.cnt))

theorem only_box {fp : List Nat} {w w1 : World} {o : Obj} (h : Only fp (w.alloc o) w1) (hlt : ∀ x ∈ fp, x < w.heap.size) : w1.heap[w.heap.size]? = some o :=
  (h.block w.heap.size (by simp) (fun hm => by have := hlt _ hm; omega)).trans (alloc_new w o)

set_option maxHeartbeats 2000000 in
theorem markTerm_any (t : Tm) (v : Value) (fp : List Nat) (m : Nat) (n : Int) (w : World) (hat : t.At w v fp) (hnd : fp.Nodup) (hfz : ∀ b ∈ fp, ∀ o, w.frozen? ⟨b, o, none⟩ = false) (hn : n = (m : Int)) (hm1 : m + t.num ≤ 1073741824) :
    Calls Tryd.prog 12 #[v, .int .i64 n] w fun e w' => e = .returned (.int .i64 ((m + t.num : Nat) : Int)) ∧ (mkR t m).At w' v fp ∧ Only fp w w' := by
  subst hn
  obtain ⟨k, nm, num, ty, fr, lb, ts, rfl⟩ := t.shape
  obtain ⟨k1, n1, a1, c1, k2, n2, a2, c2, a3, c3, f1, f2, f3, rfl, hnm, ht1, ht2, rfl, hs⟩ := hat.parts
  obtain ⟨nd1, nd23, d123⟩ := List.nodup_append.1 hnd
  obtain ⟨nd2, nd3, d23⟩ := List.nodup_append.1 nd23
  have hlt := hat.lt
  have HLT := hid hlt
  have HFZ := hid hfz
  have HD1 := hid d123
  have HD2 := hid d23
  simp only [Tm.num] at hm1 ⊢
  clear hat hnd nd23 d123 d23 hfz hlt
  have hb0 : Below w.heap.size w (w.alloc (Obj.cells #[.int .i64 k, .string nm, .int .i64 num, .int .i64 k1, .slice a1 n1 c1, .int .i64 k2, .slice a2 n2 c2, .int .i64 lb, .slice a3 ts.length c3] 34)) := (Below.refl _ _).alloc (Nat.le_refl _) _
  have HB0 := hid hb0
  go_enter Tryd.func12, Tryd.ntmps12
  go_wp2_with fail
  refine (markType_any ty _ f1 _ _ (ht1.below hb0) nd1 ?_ (by omega) (by omega)).mono ?_
  · intro x hx o'
    exact (HB0.out.frozen (p := ⟨x, o', none⟩) (HLT.out x (by simp [hx]))).trans (HFZ.out x (by simp [hx]) o')
  rintro e w1 ⟨rfl, r1, on1⟩
  have hB1 := only_box on1 (fun x hx => HLT.out x (by simp [hx]))
  obtain ⟨x0, x1, x2, x3, x4, x5, x6, x7, x8⟩ := cells9 hB1
  have q2 : Ty.At w1 fr _ f2 := (ht2.below hb0).congr fun x hx o' => World.cell?_of_block (a := ⟨x, o', none⟩) (on1.block x ((ht2.below hb0).lt x hx) (fun hx' => HD1.out x hx' x (List.mem_append_left _ hx) rfl))
  have q3 : SmAt w1 ts _ f3 := (hs.below hb0).onlyD on1 (fun x hx hx' => HD1.out x hx' x (List.mem_append_right _ hx) rfl)
  have O1 : Only (f1 ++ (f2 ++ f3)) w w1 := (only_of_below hb0).trans (on1.sub (fun x hx => by simp [hx]))
  clear hb0 ht1 ht2 hs on1
  go_wp2_with fail
  refine (markType_any fr _ f2 _ _ q2 nd2 ?_ (by omega) (by omega)).mono ?_
  · intro x hx o'
    rw [O1.frozen x o' (HLT.out x (by simp [hx]))]
    exact HFZ.out x (by simp [hx]) o'
  rintro e w2 ⟨rfl, r2, on2⟩
  have hB2 : w2.heap[w.heap.size]? = _ := (on2.block _ (lt_of_block hB1) (fun hm => by have := HLT.out _ (show w.heap.size ∈ f1 ++ (f2 ++ f3) by simp [hm]); omega)).trans hB1
  have r1' : Ty.At w2 (mkT ty (m : Int)) _ f1 := r1.congr fun x hx o' => World.cell?_of_block (a := ⟨x, o', none⟩) (on2.block x (r1.lt x hx) (fun hx' => HD1.out x hx x (List.mem_append_left _ hx') rfl))
  have q3' := q3.onlyD on2 (fun x hx hx' => HD2.out x hx' x hx rfl)
  have O2 := O1.trans (on2.sub (fun x hx => by simp [hx]))
  clear x0 x1 x2 x3 x4 x5 x6 x7 x8 O1 q2 q3 r1 on2
  obtain ⟨x0, x1, x2, x3, x4, x5, x6, x7, x8⟩ := cells9 hB2
  go_wp2_with fail
  refine (markTermS_any ts _ f3 (m + ty.cnt + fr.cnt) _ _ q3' nd3 ?_ (by push_cast; omega) (by omega)).mono ?_
  · intro x hx o'
    rw [O2.frozen x o' (HLT.out x (by simp [hx]))]
    exact HFZ.out x (by simp [hx]) o'
  rintro e w3 ⟨rfl, r3, on3⟩
  have r1'' : Ty.At w3 (mkT ty (m : Int)) _ f1 := r1'.congr fun x hx o' => World.cell?_of_block (a := ⟨x, o', none⟩) (on3.block x (r1'.lt x hx) (fun hx' => HD1.out x hx x (List.mem_append_right _ hx') rfl))
  have r2' : Ty.At w3 (mkT fr ((m : Int) + (ty.cnt : Int))) _ f2 := r2.congr fun x hx o' => World.cell?_of_block (a := ⟨x, o', none⟩) (on3.block x (r2.lt x hx) (fun hx' => HD2.out x hx x hx' rfl))
  have O3 := O2.trans (on3.sub (fun x hx => by simp [hx]))
  have hlen := mkML_len ts (m + ty.cnt + fr.cnt)
  have HFIN := hid (show (mkR (.mk k nm num ty fr lb ts) m).At w3 (.agg #[.int .i64 k, .string nm, .int .i64 num, .int .i64 k1, .slice a1 n1 c1, .int .i64 k2, .slice a2 n2 c2, .int .i64 lb, .slice a3 ts.length c3]) (f1 ++ (f2 ++ f3)) from
    Tm.at_mk.2 ⟨_, _, _, _, _, f1, f2, f3, rfl, hnm, r1'', r2', rfl, r3⟩)
  have HO3 := hid O3
  clear x0 x1 x2 x3 x4 x5 x6 x7 x8 O2 O3 q3' r1' r1'' r2 r2' r3 on3 hlen
  go_wp2_with fail
  go_ret
  exact ⟨ret_i (by omega), HFIN.out, HO3.out⟩

end Go.Proofs.YtjpmlmdbldcbjaaDoor

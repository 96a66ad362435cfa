/- The laws' own helpers markType and heldType: marks written into the memory of a tree, and asked for again. -/
import Derived.Test.YtephhhnoobkbhaaPure
namespace Go.Proofs.Ytephhhnoobkbhaa
open Go.RowKit

mutual
/-- The trees of a slice, marked from a number on. -/
def mkL : List Ty → Int → List Ty
  | [], _ => []
  | .mk _ us :: ts, m => .mk m (mkL us (m + 1)) :: mkL ts (m + 1 + (Ty.mk 0 us).cnt)
end

theorem mkL_len : ∀ (ts : List Ty) (m : Int), (mkL ts m).length = ts.length
  | [], _ => by simp only [mkL]
  | .mk _ us :: ts, m => by simp only [mkL, List.length_cons, mkL_len ts]

/-- How many numbers the first j trees use. -/
def off : List Ty → Nat → Int
  | [], _ => 0
  | _ :: _, 0 => 0
  | t :: ts, j + 1 => 1 + t.cnt + off ts j

theorem cnt_any (k k' : Int) (ts : List Ty) : (Ty.mk k ts).cnt = (Ty.mk k' ts).cnt := by simp only [Ty.cnt]

theorem off_all : ∀ ts : List Ty, off ts ts.length = (Ty.mk 0 ts).cnt
  | [] => by simp [off, Ty.cnt, cntL]
  | t :: ts => by
    have := off_all ts
    simp only [Ty.cnt] at this
    simp only [List.length_cons, off, Ty.cnt, cntL, this]
    omega

theorem off_succ : ∀ {ts : List Ty} {j : Nat} (h : j < ts.length), off ts (j + 1) = off ts j + 1 + ts[j].cnt
  | t :: ts, 0, _ => by cases ts <;> simp [off]
  | t :: ts, j + 1, h => by
    have := off_succ (ts := ts) (j := j) (by simpa using h)
    simp only [off, this, List.getElem_cons_succ]
    omega

theorem off_bd : ∀ (ts : List Ty) (j : Nat), 0 ≤ off ts j ∧ off ts j ≤ (Ty.mk 0 ts).cnt
  | [], j => by simp [off]
  | t :: ts, 0 => by simp [off]
  | t :: ts, j + 1 => by
    have := off_bd ts j
    simp only [Ty.cnt] at this
    simp only [off, Ty.cnt, cntL, List.length_cons]
    omega

def kidsT : Ty → List Ty
  | .mk _ ts => ts

theorem mkL_get : ∀ {ts : List Ty} {m : Int} {j : Nat} (h : j < ts.length) (h' : j < (mkL ts m).length), (mkL ts m)[j] = .mk (m + off ts j) (mkL (kidsT ts[j]) (m + off ts j + 1))
  | .mk k us :: ts, m, 0, _, _ => by simp [mkL, off, kidsT]
  | .mk k us :: ts, m, j + 1, h, h' => by
    have e := mkL_get (ts := ts) (m := m + 1 + (Ty.mk 0 us).cnt) (j := j) (by simpa using h) (by rw [mkL_len]; simpa using h)
    simp only [mkL, List.getElem_cons_succ, off]
    rw [e, cnt_any k 0 us, show m + 1 + ((Ty.mk 0 us).cnt : Int) + off ts j = m + (1 + ((Ty.mk 0 us).cnt : Int) + off ts j) by omega]

/-- Element i of a row of trees. -/
def Elem (w : World) (b o i : Nat) (t : Ty) (f : List Nat) : Prop := ∃ k s, w.cell? ⟨b, o + i * 2, none⟩ = some (.int .i64 k) ∧ w.cell? ⟨b, o + i * 2 + 1, none⟩ = some s ∧ SlAt w (kidsT t) s f ∧ t = .mk k (kidsT t)

theorem elem_of {w : World} {b o i : Nat} {t : Ty} {f : List Nat} {v0 v1 : Value} (h0 : w.cell? ⟨b, o + i * 2, none⟩ = some v0) (h1 : w.cell? ⟨b, o + i * 2 + 1, none⟩ = some v1) (h : t.At w (.agg #[v0, v1]) f) : Elem w b o i t f := by
  obtain ⟨k, ts, rfl⟩ := t.shape
  obtain ⟨s, hv, hs⟩ := Ty.at_mk.1 h
  simp only [Value.agg.injEq, Array.mk.injEq, List.cons.injEq, and_true] at hv
  obtain ⟨rfl, rfl⟩ := hv
  exact ⟨k, _, h0, h1, hs, rfl⟩

theorem atL_idx {w : World} {b : Nat} : ∀ {ts : List Ty} {o : Nat} {fp : List Nat}, Ty.AtL w ts b o fp → ∃ fps : List (List Nat), fps.length = ts.length ∧ fps.flatten = fp ∧ ∀ i (h : i < ts.length) (h' : i < fps.length), Elem w b o i ts[i] fps[i]
  | [], o, fp, h => ⟨[], rfl, by simp only [Ty.AtL] at h; rw [h]; rfl, fun i h => by simp at h⟩
  | t :: ts, o, fp, h => by
    obtain ⟨v0, v1, f1, f2, c0, c1, ha, hl, rfl⟩ := h
    obtain ⟨fps, h1, h2, h3⟩ := atL_idx hl
    refine ⟨f1 :: fps, by simp [h1], by simp [h2], fun i hi hi' => ?_⟩
    cases i with
    | zero => exact elem_of (by simpa using c0) (by simpa using c1) ha
    | succ i =>
      obtain ⟨k, s, e0, e1, e2⟩ := h3 i (by simpa using hi) (by simpa using hi')
      exact ⟨k, s, by rw [show o + (i + 1) * 2 = o + 2 + i * 2 by omega]; exact e0, by rw [show o + (i + 1) * 2 + 1 = o + 2 + i * 2 + 1 by omega]; exact e1, e2⟩

theorem idx_atL {w : World} {b : Nat} : ∀ {ts : List Ty} {o : Nat} {fps : List (List Nat)}, fps.length = ts.length → (∀ i (h : i < ts.length) (h' : i < fps.length), Elem w b o i ts[i] fps[i]) → Ty.AtL w ts b o fps.flatten
  | [], o, [], _, _ => by simp [Ty.AtL]
  | t :: ts, o, f :: fps, hl, h => by
    obtain ⟨k, s, e0, e1, e2, e3⟩ := h 0 (by simp) (by simp)
    refine ⟨_, _, f, fps.flatten, by simpa using e0, by simpa using e1, ?_, idx_atL (by simpa using hl) (fun i hi hi' => ?_), by simp⟩
    · simp only [List.getElem_cons_zero] at e2 e3
      rw [e3]
      exact Ty.at_mk.2 ⟨_, rfl, e2⟩
    · obtain ⟨k, s, e0, e1, e2⟩ := h (i + 1) (by simpa using hi) (by simpa using hi')
      exact ⟨k, s, by rw [show o + 2 + i * 2 = o + (i + 1) * 2 by omega]; exact e0, by rw [show o + 2 + i * 2 + 1 = o + (i + 1) * 2 + 1 by omega]; exact e1, e2⟩

/-- Of the old blocks only those of fp have been written; the marks of what is frozen stand. -/
structure Only (fp : List Nat) (w w' : World) : Prop where
  os : w'.os = w.os
  tape : w'.tape = w.tape
  output : w'.output = w.output
  size : w.heap.size ≤ w'.heap.size
  block : ∀ k, k < w.heap.size → k ∉ fp → w'.heap[k]? = w.heap[k]?
  frozen : ∀ k o, k < w.heap.size → w'.frozen? ⟨k, o, none⟩ = w.frozen? ⟨k, o, none⟩

theorem Only.refl (fp : List Nat) (w : World) : Only fp w w := ⟨rfl, rfl, rfl, Nat.le_refl _, fun _ _ _ => rfl, fun _ _ _ => rfl⟩

theorem Only.trans {fp : List Nat} {a b c : World} (h : Only fp a b) (k : Only fp b c) : Only fp a c :=
  ⟨k.os.trans h.os, k.tape.trans h.tape, k.output.trans h.output, Nat.le_trans h.size k.size, fun i hi hn => (k.block i (Nat.lt_of_lt_of_le hi h.size) hn).trans (h.block i hi hn), fun i o hi => (k.frozen i o (Nat.lt_of_lt_of_le hi h.size)).trans (h.frozen i o hi)⟩

theorem Only.sub {f g : List Nat} {a b : World} (h : Only f a b) (hs : ∀ x ∈ f, x ∈ g) : Only g a b := ⟨h.os, h.tape, h.output, h.size, fun k hk hn => h.block k hk (fun hm => hn (hs k hm)), h.frozen⟩

theorem Only.below {fp : List Nat} {B : Nat} {w w' : World} (h : Only fp w w') (hB : ∀ x ∈ fp, B ≤ x) (hw : B ≤ w.heap.size) : Below B w w' :=
  ⟨h.os, h.tape, h.output, h.size, fun k hk => h.block k (by omega) (fun hm => by have := hB k hm; omega)⟩

theorem only_of_below {fp : List Nat} {w w' : World} (h : Below w.heap.size w w') : Only fp w w' :=
  ⟨h.os, h.tape, h.output, h.size, fun k hk _ => h.block k hk, fun k o hk => h.frozen (p := ⟨k, o, none⟩) hk⟩

theorem frozen_setCell (w : World) (a : Addr) (u : Value) (b o : Nat) : (w.setCell a u).frozen? ⟨b, o, none⟩ = w.frozen? ⟨b, o, none⟩ := by
  by_cases h : b = a.block
  · subst h
    simp only [World.frozen?, World.setCell, Array.getElem?_modify]
    cases hb : w.heap[a.block]? with
    | none => simp
    | some x => cases x <;> simp
  · exact frozen_setCell_ne w a u b o h

theorem Only.setCell {fp : List Nat} {w : World} {b o : Nat} (hb : b ∈ fp) (u : Value) : Only fp w (w.setCell ⟨b, o, none⟩ u) :=
  ⟨rfl, rfl, rfl, by rw [size_setCell]; exact Nat.le_refl _, fun k _ hn => Below.heap_setCell _ _ _ _ (fun e => hn (e ▸ hb)), fun k o' _ => frozen_setCell _ _ _ _ _⟩

theorem Elem.only {w w' : World} {b o i : Nat} {t : Ty} {f g : List Nat} (h : Elem w b o i t f) (hg : Only g w w') (hb : b ∉ g) (hlt : b < w.heap.size) (hd : ∀ x ∈ f, x ∉ g) : Elem w' b o i t f := by
  obtain ⟨k, s, e0, e1, e2, e3⟩ := h
  have hc : ∀ o', w'.cell? ⟨b, o', none⟩ = w.cell? ⟨b, o', none⟩ := fun o' => World.cell?_of_block (w := w) (a := ⟨b, o', none⟩) (hg.block b hlt hb)
  exact ⟨k, s, (hc _).trans e0, (hc _).trans e1, e2.congr (fun x hx o' => World.cell?_of_block (w := w) (a := ⟨x, o', none⟩) (hg.block x (e2.lt x hx) (hd x hx))), e3⟩

/-- A store of another element's kind. -/
theorem Elem.setKind {w : World} {b o i j : Nat} {t : Ty} {f : List Nat} (h : Elem w b o i t f) (hne : i ≠ j) (hb : b ∉ f) (u : Value) : Elem (w.setCell ⟨b, o + j * 2, none⟩ u) b o i t f := by
  obtain ⟨k, s, e0, e1, e2, e3⟩ := h
  have hc : ∀ o', o' ≠ o + j * 2 → (w.setCell ⟨b, o + j * 2, none⟩ u).cell? ⟨b, o', none⟩ = w.cell? ⟨b, o', none⟩ := fun o' ho => by
    simp only [World.cell?, World.setCell, Array.getElem?_modify]
    cases hb : w.heap[b]? with
    | none => simp
    | some x => cases x <;> simp [Array.getElem?_setIfInBounds_ne (Ne.symm ho)]
  exact ⟨k, s, (hc _ (by omega)).trans e0, (hc _ (by omega)).trans e1, e2.congr (fun x hx o' => cell_setCell_ne _ _ _ _ _ (fun (e : x = b) => hb (e ▸ hx))), e3⟩

theorem cell_setCell_self {w : World} {b o : Nat} {v : Value} (h : w.cell? ⟨b, o, none⟩ = some v) (u : Value) : (w.setCell ⟨b, o, none⟩ u).cell? ⟨b, o, none⟩ = some u := by
  simp only [World.cell?, World.setCell, Array.getElem?_modify] at *
  cases hb : w.heap[b]? with
  | none => rw [hb] at h; cases h
  | some x =>
    rw [hb] at h
    cases x <;> simp_all [Array.getElem?_setIfInBounds]
    exact (Array.getElem?_eq_some_iff.1 h).1

theorem cell_setCell_other {w : World} {b o o' : Nat} (ho : o' ≠ o) (u : Value) : (w.setCell ⟨b, o, none⟩ u).cell? ⟨b, o', none⟩ = w.cell? ⟨b, o', none⟩ := by
  simp only [World.cell?, World.setCell, Array.getElem?_modify]
  cases hb : w.heap[b]? with
  | none => simp
  | some x => cases x <;> simp [Array.getElem?_setIfInBounds_ne (Ne.symm ho)]

theorem flatten_sub {fps : List (List Nat)} {i : Nat} (h : i < fps.length) : ∀ x ∈ fps[i], x ∈ fps.flatten := fun _ hx => List.mem_flatten.2 ⟨_, List.getElem_mem h, hx⟩

theorem flatten_apart : ∀ {fps : List (List Nat)} {i j : Nat} (h : i < fps.length) (h' : j < fps.length), fps.flatten.Nodup → i ≠ j → ∀ x ∈ fps[i], x ∉ fps[j]
  | f :: fps, i, j, h, h', hn, hne, x, hx, hx' => by
    simp only [List.flatten_cons, List.nodup_append] at hn
    obtain ⟨_, hn2, hd⟩ := hn
    cases i with
    | zero =>
      cases j with
      | zero => omega
      | succ j =>
        simp only [List.getElem_cons_zero, List.getElem_cons_succ] at hx hx'
        exact hd x hx x (flatten_sub (by simpa using h') x hx') rfl
    | succ i =>
      cases j with
      | zero =>
        simp only [List.getElem_cons_zero, List.getElem_cons_succ] at hx hx'
        exact hd x hx' x (flatten_sub (by simpa using h) x hx) rfl
      | succ j =>
        simp only [List.getElem_cons_succ] at hx hx'
        exact flatten_apart (by simpa using h) (by simpa using h') hn2 (by omega) x hx hx'

theorem flatten_nodup : ∀ {fps : List (List Nat)} {i : Nat} (h : i < fps.length), fps.flatten.Nodup → fps[i].Nodup
  | f :: fps, 0, _, hn => by simp only [List.flatten_cons, List.nodup_append] at hn; exact hn.1
  | f :: fps, i + 1, h, hn => by
    simp only [List.flatten_cons, List.nodup_append] at hn
    exact flatten_nodup (fps := fps) (i := i) (by simpa using h) hn.2.1

/-- What the marking of a slice says. -/
def MarkS (ts : List Ty) (s : Value) (fp : List Nat) (m : Int) (w : World) (e : Ending) (w' : World) : Prop :=
  e = .returned (.int .i64 (m + (Ty.mk 0 ts).cnt)) ∧ SlAt w' (mkL ts m) s fp ∧ Only fp w w'

def MkC (ts : List Ty) : Prop := ∀ (s : Value) (fp : List Nat) (m : Int) (w : World), SlAt w ts s fp → fp.Nodup → (∀ b ∈ fp, ∀ o, w.frozen? ⟨b, o, none⟩ = false) → 0 ≤ m → m + (Ty.mk 0 ts).cnt ≤ 1073741824 →
  Calls Try.prog 59 #[s, .int .i64 m] w (MarkS ts s fp m w)

/-- Which trees stand in the row behind j rounds. -/
def part (ts : List Ty) (m : Int) (j i : Nat) : Ty := if i < j then (mkL ts m)[i]?.getD (.mk 0 []) else ts[i]?.getD (.mk 0 [])

theorem cnt_kids (t : Ty) : (Ty.mk 0 (kidsT t)).cnt = t.cnt := by
  cases t
  simp only [kidsT, Ty.cnt]

theorem Elem.lt {w : World} {b o i : Nat} {t : Ty} {f : List Nat} (h : Elem w b o i t f) : ∀ x ∈ f, x < w.heap.size := by
  obtain ⟨k, s, _, _, e2, _⟩ := h
  exact e2.lt

theorem part_at {ts : List Ty} {m : Int} {j : Nat} (h : j < ts.length) : part ts m (j + 1) j = .mk (m + off ts j) (mkL (kidsT ts[j]) (m + off ts j + 1)) := by
  have h' : j < (mkL ts m).length := by rw [mkL_len]; exact h
  rw [part, if_pos (by omega), List.getElem?_eq_getElem h', Option.getD_some, mkL_get h h']

theorem part_other {ts : List Ty} {m : Int} {i j : Nat} (h : i ≠ j) : part ts m (j + 1) i = part ts m j i := by
  unfold part
  by_cases hi : i < j
  · rw [if_pos hi, if_pos (by omega)]
  · rw [if_neg hi, if_neg (by omega)]

theorem markElem {w w1 : World} {ts : List Ty} {fps : List (List Nat)} {b o j : Nat} {m k0 : Int} {s0 : Value} (hlk : j < ts.length) (hjf : j < fps.length) (hb : b ∉ fps.flatten)
    (hon : Only fps[j] (w.setCell ⟨b, o + j * 2, none⟩ (.int .i64 (m + off ts j))) w1) (c0 : w.cell? ⟨b, o + j * 2, none⟩ = some (.int .i64 k0)) (c1 : w.cell? ⟨b, o + j * 2 + 1, none⟩ = some s0)
    (hs : SlAt w1 (mkL (kidsT ts[j]) (m + off ts j + 1)) s0 fps[j]) : Elem w1 b o j (part ts m (j + 1) j) fps[j] := by
  rw [part_at hlk]
  have hlt : b < (w.setCell ⟨b, o + j * 2, none⟩ (.int .i64 (m + off ts j))).heap.size := by rw [size_setCell]; exact World.block_lt_of_cell? _ _ c0
  have hnb : b ∉ fps[j] := fun h => hb (flatten_sub hjf b h)
  have hc : ∀ o', w1.cell? ⟨b, o', none⟩ = (w.setCell ⟨b, o + j * 2, none⟩ (.int .i64 (m + off ts j))).cell? ⟨b, o', none⟩ := fun o' => World.cell?_of_block (w := w.setCell ⟨b, o + j * 2, none⟩ (.int .i64 (m + off ts j))) (a := ⟨b, o', none⟩) (hon.block b hlt hnb)
  exact ⟨m + off ts j, s0, (hc _).trans (cell_setCell_self c0 _), (hc _).trans ((cell_setCell_other (by omega) _).trans c1), hs, rfl⟩

theorem markOther {w w1 : World} {ts : List Ty} {fps : List (List Nat)} {b o j : Nat} {m : Int} (_hlk : j < ts.length) (hjf : j < fps.length) (hb : b ∉ fps.flatten) (hnd : fps.flatten.Nodup)
    (hon : Only fps[j] (w.setCell ⟨b, o + j * 2, none⟩ (.int .i64 (m + off ts j))) w1) (hlt : b < w.heap.size) (hel : ∀ i (_ : i < ts.length) (h' : i < fps.length), Elem w b o i (part ts m j i) fps[i]) :
    ∀ i (_ : i < ts.length) (h' : i < fps.length), i ≠ j → Elem w1 b o i (part ts m (j + 1) i) fps[i] := by
  intro i h h' hne
  rw [part_other hne]
  exact ((hel i h h').setKind hne (fun hx => hb (flatten_sub h' b hx)) _).only hon (fun hx => hb (flatten_sub hjf b hx)) (by rw [size_setCell]; exact hlt) (flatten_apart h' hjf hnd hne)

set_option maxHeartbeats 1600000 in
theorem markTypeS_of (ts : List Ty) (ih : ∀ t ∈ ts, MkC (kidsT t)) : MkC ts := by
  intro s fp m w hs hnd hfz hm0 hm1
  have HIH := hid ih
  clear ih
  rcases hs with ⟨rfl, rfl, a, cap, rfl⟩ | ⟨b, o, cap, f, rfl, hp, hc, hm, hl, rfl⟩
  · go_enter Try.func59, Try.ntmps59
    go_wp2_with fail
    go_loop [1, 5] (fun k i => k = .int .i64 m ∧ i = .int .i64 0) (fun _ _ => 0)
    case atStart => exact ⟨rfl, rfl⟩
    case round =>
      obtain ⟨rfl, rfl⟩ := hrel
      go_wp2_with fail
      go_ret
      exact ⟨ret_i (by simp [Ty.cnt, cntL]), .inl ⟨by simp only [mkL], rfl, a, cap, rfl⟩, Only.refl _ _⟩
  · unfold maxLen at hm
    obtain ⟨fps, hfl, rfl, hel⟩ := atL_idx hl
    obtain ⟨hbn, hnf⟩ := List.nodup_cons.1 hnd
    have HEL := hid hel
    have HND := hid hnf
    have HBN := hid hbn
    have HFZ := hid hfz
    have HFL := hid hfl
    have hcnt := off_all ts
    have hbd := off_bd ts
    have HCNT := hid hcnt
    have HBD := hid hbd
    have hblt : b < w.heap.size := by
      obtain ⟨k, s, e0, _⟩ := hel 0 hp (by omega)
      exact World.block_lt_of_cell? _ _ e0
    have hzb : ∀ o, w.frozen? ⟨b, o, none⟩ = false := hfz b (by simp)
    have HZB := hid hzb
    have HM1 := hid hm1
    clear hel hbn hnf hnd hfz hl hcnt hbd hfl hzb hm1
    go_enter Try.func59, Try.ntmps59
    go_wp2_with fail
    go_loopw [1, 5] (fun k i wr => ∃ j : Nat, j ≤ ts.length ∧ i = .int .i64 j ∧ k = .int .i64 (m + off ts j) ∧ Only (b :: fps.flatten) w wr ∧ ∀ i (h : i < ts.length) (h' : i < fps.length), Elem wr b o i (part ts m j i) fps[i])
      (fun _ i _ => ts.length - (intOf i).toNat)
    case atStart =>
      refine ⟨0, Nat.zero_le _, rfl, ?_, Only.refl _ _, fun i h h' => ?_⟩
      · cases ts <;> simp [off]
      · have := HEL.out i h h'
        simpa [part, List.getElem?_eq_getElem h] using this
    case round =>
      obtain ⟨j, hj, rfl, rfl, hon, hel⟩ := hrel
      by_cases hlk : j < ts.length
      · have hjf : j < fps.length := by rw [HFL.out]; exact hlk
        obtain ⟨k0, s0, c0, c1, hs0, _⟩ := hel j hlk hjf
        have hz0 : wr.frozen? ⟨b, o + j * 2, none⟩ = false := (hon.frozen b _ hblt).trans (HZB.out _)
        have hpt : part ts m j j = ts[j] := by simp [part, List.getElem?_eq_getElem hlk]
        rw [hpt] at hs0
        have hofs := off_succ hlk
        have hb0 := (HBD.out j)
        have hb1 := (HBD.out (j + 1))
        have hk1 : 0 ≤ m + off ts j ∧ m + off ts j + 1 ≤ 1073741824 := by have := HM1.out; have := HCNT.out; omega
        obtain ⟨hk1a, hk1b⟩ := hk1
        obtain ⟨a0, cap0, hsh⟩ := hs0.shape
        subst hsh
        have HEL2 := hid hel
        have HS0 := hid hs0
        have HOF := hid hofs
        have HB1 := hid hb1
        have HON := hid hon
        clear hel hs0 hpt hofs hb0 hb1 hon
        have q1 : (wr.setCell ⟨b, o + j * 2, none⟩ (.int .i64 (m + off ts j))).cell? ⟨b, o + j * 2 + 1, none⟩ = some (.slice a0 (kidsT ts[j]).length cap0) := (cell_setCell_other (by omega) _).trans c1
        go_wp2_with fail
        refine (HIH.out _ (List.getElem_mem hlk) _ fps[j] _ _ (HS0.out.setCell (a := ⟨b, o + j * 2, none⟩) (fun x hx e => HBN.out (by rw [← show x = b from e]; exact flatten_sub hjf x hx)) _) (flatten_nodup hjf HND.out) ?_ (by omega) ?_).mono ?_
        · intro x hx o'
          rw [frozen_setCell, HON.out.frozen x o' ((HEL.out j hlk hjf).lt x hx)]
          exact HFZ.out x (List.mem_cons_of_mem _ (flatten_sub hjf x hx)) o'
        · have := HOF.out
          have := HB1.out
          have := HM1.out
          have := cnt_kids ts[j]
          omega
        rintro e w1 ⟨rfl, hs1, hon1⟩
        have HR := hid (show Elem w1 b o j (part ts m (j + 1) j) fps[j] from markElem hlk hjf HBN.out hon1 c0 c1 hs1)
        have HR2 := hid (markOther hlk hjf HBN.out HND.out hon1 (Nat.lt_of_lt_of_le hblt HON.out.size) HEL2.out)
        have HON2 := hid ((HON.out.trans (Only.setCell (b := b) (o := o + j * 2) (by simp) (.int .i64 (m + off ts j)))).trans (hon1.sub (fun x hx => List.mem_cons_of_mem _ (flatten_sub hjf x hx))))
        have HCK := hid (cnt_kids ts[j])
        clear hs1 hon1 c0 c1 q1 hz0
        go_wp2_with fail
        refine ⟨⟨j + 1, by omega, by go_num, ?_, HON2.out, fun i h h' => ?_⟩, by simp [intOf]; omega⟩
        · rw [HOF.out, HCK.out]
          congr 1
          omega
        · by_cases hij : i = j
          · subst hij
            exact HR.out
          · exact HR2.out i h h' hij
      · have hjl : j = ts.length := by omega
        have HE := hid hel
        have HON := hid hon
        clear hel hon
        go_wp2_with fail
        go_ret
        refine ⟨ret_i (by rw [hjl, HCNT.out]), .inr ⟨b, o, cap, fps.flatten, by rw [mkL_len], by rw [mkL_len]; exact hp, by rw [mkL_len]; exact hc, by rw [mkL_len]; unfold maxLen; omega, idx_atL (by rw [mkL_len]; exact HFL.out) (fun i h h' => ?_), rfl⟩, HON.out⟩
        have hi : i < ts.length := by rw [mkL_len] at h; exact h
        have := HE.out i hi h'
        rw [part, if_pos (by omega), List.getElem?_eq_getElem h] at this
        exact this

theorem markTypeS_any (ts : List Ty) : MkC ts := by
  have h : ∀ t : Ty, MkC (kidsT t) := Ty.ind fun k ts ih => markTypeS_of ts ih
  exact h (.mk 0 ts)

end Go.Proofs.Ytephhhnoobkbhaa

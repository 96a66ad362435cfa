/- The laws' own helpers markCoercion and heldCoercion: marks written into the memory of a coercion, and asked for again. -/
import Derived.Test.YtgiimijooabioaaCo
import Derived.Test.YtgiimijooabioaaPkA
namespace Go.Proofs.Ytgiimijooabioaa
open Go.RowKit

mutual
/-- The coercions of a slice, marked from a number on. -/
def mkCL : List Co → Int → List Co
  | [], _ => []
  | .mk _ _ _ us :: ts, m => .mk m (m + 1) (m + 2) (mkCL us (m + 3)) :: mkCL ts (m + 3 + 3 * (Co.mk 0 0 0 us).cnt)
end

theorem mkCL_len : ∀ (ts : List Co) (m : Int), (mkCL ts m).length = ts.length
  | [], _ => by simp only [mkCL]
  | .mk _ _ _ us :: ts, m => by simp only [mkCL, List.length_cons, mkCL_len ts]

/-- How many numbers the first j coercions use. -/
def offC : List Co → Nat → Int
  | [], _ => 0
  | _ :: _, 0 => 0
  | t :: ts, j + 1 => 3 + 3 * t.cnt + offC ts j

theorem ccnt_any (k g l k' g' l' : Int) (ts : List Co) : (Co.mk k g l ts).cnt = (Co.mk k' g' l' ts).cnt := by simp only [Co.cnt]

theorem offC_all : ∀ ts : List Co, offC ts ts.length = 3 * (Co.mk 0 0 0 ts).cnt
  | [] => by simp [offC, Co.cnt, ccntL]
  | t :: ts => by
    have := offC_all ts
    simp only [Co.cnt] at this
    simp only [List.length_cons, offC, Co.cnt, ccntL, this]
    omega

theorem offC_succ : ∀ {ts : List Co} {j : Nat} (h : j < ts.length), offC ts (j + 1) = offC ts j + 3 + 3 * ts[j].cnt
  | t :: ts, 0, _ => by cases ts <;> simp [offC]
  | t :: ts, j + 1, h => by
    have := offC_succ (ts := ts) (j := j) (by simpa using h)
    simp only [offC, this, List.getElem_cons_succ]
    omega

theorem offC_bd : ∀ (ts : List Co) (j : Nat), 0 ≤ offC ts j ∧ offC ts j ≤ 3 * (Co.mk 0 0 0 ts).cnt
  | [], j => by simp only [offC]; omega
  | t :: ts, 0 => by simp only [offC]; omega
  | t :: ts, j + 1 => by
    have := offC_bd ts j
    simp only [Co.cnt] at this
    simp only [offC, Co.cnt, ccntL, List.length_cons]
    omega

def kidsC : Co → List Co
  | .mk _ _ _ ts => ts

theorem mkCL_get : ∀ {ts : List Co} {m : Int} {j : Nat} (h : j < ts.length) (h' : j < (mkCL ts m).length), (mkCL ts m)[j] = .mk (m + offC ts j) (m + offC ts j + 1) (m + offC ts j + 2) (mkCL (kidsC ts[j]) (m + offC ts j + 3))
  | .mk k g l us :: ts, m, 0, _, _ => by simp [mkCL, offC, kidsC]
  | .mk k g l us :: ts, m, j + 1, h, h' => by
    have e := mkCL_get (ts := ts) (m := m + 3 + 3 * (Co.mk 0 0 0 us).cnt) (j := j) (by simpa using h) (by rw [mkCL_len]; simpa using h)
    simp only [mkCL, List.getElem_cons_succ, offC]
    rw [e, ccnt_any k g l 0 0 0 us, show m + 3 + 3 * ((Co.mk 0 0 0 us).cnt : Int) + offC ts j = m + (3 + 3 * ((Co.mk 0 0 0 us).cnt : Int) + offC ts j) by omega]

/-- Element i of a row of coercions. -/
def ElemC (w : World) (b o i : Nat) (t : Co) (f : List Nat) : Prop := ∃ k g l s, w.cell? ⟨b, o + i * 4, none⟩ = some (.int .i64 k) ∧ w.cell? ⟨b, o + i * 4 + 1, none⟩ = some (.int .i64 g) ∧ w.cell? ⟨b, o + i * 4 + 2, none⟩ = some (.int .i64 l) ∧ w.cell? ⟨b, o + i * 4 + 3, none⟩ = some s ∧ CSl w (kidsC t) s f ∧ t = .mk k g l (kidsC t)

theorem elemC_of {w : World} {b o i : Nat} {t : Co} {f : List Nat} {v0 v1 v2 v3 : Value} (h0 : w.cell? ⟨b, o + i * 4, none⟩ = some v0) (h1 : w.cell? ⟨b, o + i * 4 + 1, none⟩ = some v1) (h2 : w.cell? ⟨b, o + i * 4 + 2, none⟩ = some v2) (h3 : w.cell? ⟨b, o + i * 4 + 3, none⟩ = some v3) (h : t.At w (.agg #[v0, v1, v2, v3]) f) : ElemC w b o i t f := by
  obtain ⟨k, g, l, ts, rfl⟩ := t.shape
  obtain ⟨s, hv, hs⟩ := Co.at_mk.1 h
  simp only [Value.agg.injEq, Array.mk.injEq, List.cons.injEq, and_true] at hv
  obtain ⟨rfl, rfl, rfl, rfl⟩ := hv
  exact ⟨k, g, l, _, h0, h1, h2, h3, hs, rfl⟩

theorem atCL_idx {w : World} {b : Nat} : ∀ {ts : List Co} {o : Nat} {fp : List Nat}, Co.AtL w ts b o fp → ∃ fps : List (List Nat), fps.length = ts.length ∧ fps.flatten = fp ∧ ∀ i (h : i < ts.length) (h' : i < fps.length), ElemC w b o i ts[i] fps[i]
  | [], o, fp, h => ⟨[], rfl, by simp only [Co.AtL] at h; rw [h]; rfl, fun i h => by simp at h⟩
  | t :: ts, o, fp, h => by
    obtain ⟨v0, v1, v2, v3, f1, f2, c0, c1, c2, c3, ha, hl, rfl⟩ := h
    obtain ⟨fps, h1, h2, h3⟩ := atCL_idx hl
    refine ⟨f1 :: fps, by simp [h1], by simp [h2], fun i hi hi' => ?_⟩
    cases i with
    | zero => exact elemC_of (by simpa using c0) (by simpa using c1) (by simpa using c2) (by simpa using c3) ha
    | succ i =>
      obtain ⟨k, g, l, s, e0, e1, e2, e3, e4⟩ := h3 i (by simpa using hi) (by simpa using hi')
      have e : o + (i + 1) * 4 = o + 4 + i * 4 := by omega
      exact ⟨k, g, l, s, by rw [e]; exact e0, by rw [e]; exact e1, by rw [e]; exact e2, by rw [e]; exact e3, e4⟩

theorem idx_atCL {w : World} {b : Nat} : ∀ {ts : List Co} {o : Nat} {fps : List (List Nat)}, fps.length = ts.length → (∀ i (h : i < ts.length) (h' : i < fps.length), ElemC w b o i ts[i] fps[i]) → Co.AtL w ts b o fps.flatten
  | [], o, [], _, _ => by simp [Co.AtL]
  | t :: ts, o, f :: fps, hl, h => by
    obtain ⟨k, g, l, s, e0, e1, e2, e3, e4, e5⟩ := h 0 (by simp) (by simp)
    refine ⟨_, _, _, _, f, fps.flatten, by simpa using e0, by simpa using e1, by simpa using e2, by simpa using e3, ?_, idx_atCL (by simpa using hl) (fun i hi hi' => ?_), by simp⟩
    · simp only [List.getElem_cons_zero] at e4 e5
      rw [e5]
      exact Co.at_mk.2 ⟨_, rfl, e4⟩
    · obtain ⟨k, g, l, s, e0, e1, e2, e3, e4⟩ := h (i + 1) (by simpa using hi) (by simpa using hi')
      have e : o + 4 + i * 4 = o + (i + 1) * 4 := by omega
      exact ⟨k, g, l, s, by rw [e]; exact e0, by rw [e]; exact e1, by rw [e]; exact e2, by rw [e]; exact e3, e4⟩

theorem ElemC.only {w w' : World} {b o i : Nat} {t : Co} {f g : List Nat} (h : ElemC w b o i t f) (hg : Only g w w') (hb : b ∉ g) (hlt : b < w.heap.size) (hd : ∀ x ∈ f, x ∉ g) : ElemC w' b o i t f := by
  obtain ⟨k, x, l, s, e0, e1, e2, e3, e4, e5⟩ := h
  have hc : ∀ o', w'.cell? ⟨b, o', none⟩ = w.cell? ⟨b, o', none⟩ := fun o' => World.cell?_of_block (w := w) (a := ⟨b, o', none⟩) (hg.block b hlt hb)
  exact ⟨k, x, l, s, (hc _).trans e0, (hc _).trans e1, (hc _).trans e2, (hc _).trans e3, e4.congr (fun x hx o' => World.cell?_of_block (w := w) (a := ⟨x, o', none⟩) (hg.block x (e4.lt x hx) (hd x hx))), e5⟩

/-- Three stores into an element. -/
def put3 (w : World) (b o : Nat) (x0 x1 x2 : Value) : World := ((w.setCell ⟨b, o, none⟩ x0).setCell ⟨b, o + 1, none⟩ x1).setCell ⟨b, o + 2, none⟩ x2

theorem put3_cell {w : World} {b o o' : Nat} (x0 x1 x2 : Value) (h0 : o' ≠ o) (h1 : o' ≠ o + 1) (h2 : o' ≠ o + 2) : (put3 w b o x0 x1 x2).cell? ⟨b, o', none⟩ = w.cell? ⟨b, o', none⟩ := by
  unfold put3
  rw [cell_setCell_other h2, cell_setCell_other h1, cell_setCell_other h0]

theorem put3_ne {w : World} {b o c o' : Nat} (x0 x1 x2 : Value) (h : c ≠ b) : (put3 w b o x0 x1 x2).cell? ⟨c, o', none⟩ = w.cell? ⟨c, o', none⟩ := by
  unfold put3
  rw [cell_setCell_ne _ _ _ _ _ h, cell_setCell_ne _ _ _ _ _ h, cell_setCell_ne _ _ _ _ _ h]

theorem put3_size (w : World) (b o : Nat) (x0 x1 x2 : Value) : (put3 w b o x0 x1 x2).heap.size = w.heap.size := by simp only [put3, size_setCell]

theorem put3_frozen (w : World) (b o : Nat) (x0 x1 x2 : Value) (c o' : Nat) : (put3 w b o x0 x1 x2).frozen? ⟨c, o', none⟩ = w.frozen? ⟨c, o', none⟩ := by
  simp only [put3, frozen_setCell]

theorem Only.put3 {fp : List Nat} {w : World} {b o : Nat} (hb : b ∈ fp) (x0 x1 x2 : Value) : Only fp w (put3 w b o x0 x1 x2) :=
  ((Only.setCell hb x0).trans (Only.setCell hb x1)).trans (Only.setCell hb x2)

/-- A store of another element's marks. -/
theorem ElemC.set3 {w : World} {b o i j : Nat} {t : Co} {f : List Nat} (h : ElemC w b o i t f) (hne : i ≠ j) (hb : b ∉ f) (x0 x1 x2 : Value) : ElemC (put3 w b (o + j * 4) x0 x1 x2) b o i t f := by
  obtain ⟨k, g, l, s, e0, e1, e2, e3, e4, e5⟩ := h
  refine ⟨k, g, l, s, ?_, ?_, ?_, ?_, e4.congr (fun x hx o' => put3_ne _ _ _ (fun (e : x = b) => hb (e ▸ hx))), e5⟩ <;>
    (rw [put3_cell _ _ _ (by omega) (by omega) (by omega)]; assumption)

def MarkCS (ts : List Co) (s : Value) (fp : List Nat) (m : Int) (w : World) (e : Ending) (w' : World) : Prop :=
  e = .returned (.int .i64 (m + 3 * (Co.mk 0 0 0 ts).cnt)) ∧ CSl w' (mkCL ts m) s fp ∧ Only fp w w'

def MkCC (ts : List Co) : Prop := ∀ (s : Value) (fp : List Nat) (m : Int) (w : World), CSl w ts s fp → fp.Nodup → (∀ b ∈ fp, ∀ o, w.frozen? ⟨b, o, none⟩ = false) → 0 ≤ m → m + 3 * (Co.mk 0 0 0 ts).cnt ≤ 1073741824 →
  Calls Try.prog 42 #[s, .int .i64 m] w (MarkCS ts s fp m w)

/-- Which trees stand in the row behind j rounds. -/
def partC (ts : List Co) (m : Int) (j i : Nat) : Co := if i < j then (mkCL ts m)[i]?.getD (.mk 0 0 0 []) else ts[i]?.getD (.mk 0 0 0 [])

theorem ccnt_kids (t : Co) : (Co.mk 0 0 0 (kidsC t)).cnt = t.cnt := by
  cases t
  simp only [kidsC, Co.cnt]

theorem ElemC.lt {w : World} {b o i : Nat} {t : Co} {f : List Nat} (h : ElemC w b o i t f) : ∀ x ∈ f, x < w.heap.size := by
  obtain ⟨k, g, l, s, _, _, _, _, e2, _⟩ := h
  exact e2.lt

theorem partC_at {ts : List Co} {m : Int} {j : Nat} (h : j < ts.length) : partC ts m (j + 1) j = .mk (m + offC ts j) (m + offC ts j + 1) (m + offC ts j + 2) (mkCL (kidsC ts[j]) (m + offC ts j + 3)) := by
  have h' : j < (mkCL ts m).length := by rw [mkCL_len]; exact h
  rw [partC, if_pos (by omega), List.getElem?_eq_getElem h', Option.getD_some, mkCL_get h h']

theorem partC_other {ts : List Co} {m : Int} {i j : Nat} (h : i ≠ j) : partC ts m (j + 1) i = partC ts m j i := by
  unfold partC
  by_cases hi : i < j
  · rw [if_pos hi, if_pos (by omega)]
  · rw [if_neg hi, if_neg (by omega)]

theorem markElemC {w w1 : World} {ts : List Co} {fps : List (List Nat)} {b o j : Nat} {m : Int} {v0 v1 v2 s0 : Value} (hlk : j < ts.length) (hjf : j < fps.length) (hb : b ∉ fps.flatten)
    (hon : Only fps[j] (put3 w b (o + j * 4) (.int .i64 (m + offC ts j)) (.int .i64 (m + offC ts j + 1)) (.int .i64 (m + offC ts j + 2))) w1) (c0 : w.cell? ⟨b, o + j * 4, none⟩ = some v0) (c1 : w.cell? ⟨b, o + j * 4 + 1, none⟩ = some v1) (c2 : w.cell? ⟨b, o + j * 4 + 2, none⟩ = some v2) (c3 : w.cell? ⟨b, o + j * 4 + 3, none⟩ = some s0)
    (hs : CSl w1 (mkCL (kidsC ts[j]) (m + offC ts j + 3)) s0 fps[j]) : ElemC w1 b o j (partC ts m (j + 1) j) fps[j] := by
  rw [partC_at hlk]
  have hlt := (World.block_lt_of_cell? _ _ c0 : b < w.heap.size)
  have hnb : b ∉ fps[j] := fun h => hb (flatten_sub hjf b h)
  have hc : ∀ o', w1.cell? ⟨b, o', none⟩ = (put3 w b (o + j * 4) (.int .i64 (m + offC ts j)) (.int .i64 (m + offC ts j + 1)) (.int .i64 (m + offC ts j + 2))).cell? ⟨b, o', none⟩ := fun o' => World.cell?_of_block (a := ⟨b, o', none⟩) (hon.block b (by rw [put3_size]; exact hlt) hnb)
  refine ⟨m + offC ts j, _, _, s0, (hc _).trans ?_, (hc _).trans ?_, (hc _).trans ?_, (hc _).trans ((put3_cell _ _ _ (by omega) (by omega) (by omega)).trans c3), hs, rfl⟩
  · unfold put3
    rw [cell_setCell_other (by omega), cell_setCell_other (by omega)]
    exact cell_setCell_self c0 _
  · unfold put3
    rw [cell_setCell_other (by omega)]
    exact cell_setCell_self ((cell_setCell_other (by omega) _).trans c1) _
  · exact cell_setCell_self ((cell_setCell_other (by omega) _).trans ((cell_setCell_other (by omega) _).trans c2)) _

theorem markOtherC {w w1 : World} {ts : List Co} {fps : List (List Nat)} {b o j : Nat} {m : Int} (_hlk : j < ts.length) (hjf : j < fps.length) (hb : b ∉ fps.flatten) (hnd : fps.flatten.Nodup)
    (hon : Only fps[j] (put3 w b (o + j * 4) (.int .i64 (m + offC ts j)) (.int .i64 (m + offC ts j + 1)) (.int .i64 (m + offC ts j + 2))) w1) (hlt : b < w.heap.size) (hel : ∀ i (_ : i < ts.length) (h' : i < fps.length), ElemC w b o i (partC ts m j i) fps[i]) :
    ∀ i (_ : i < ts.length) (h' : i < fps.length), i ≠ j → ElemC w1 b o i (partC ts m (j + 1) i) fps[i] := by
  intro i h h' hne
  rw [partC_other hne]
  exact ((hel i h h').set3 hne (fun hx => hb (flatten_sub h' b hx)) _ _ _).only hon (fun hx => hb (flatten_sub hjf b hx)) (by rw [put3_size]; exact hlt) (flatten_apart h' hjf hnd hne)

set_option maxHeartbeats 1600000 in
theorem markCoerS_of (ts : List Co) (ih : ∀ t ∈ ts, MkCC (kidsC t)) : MkCC ts := by
  intro s fp m w hs hnd hfz hm0 hm1
  have HIH := hid ih
  clear ih
  rcases hs with ⟨rfl, rfl, a, cap, rfl⟩ | ⟨b, o, cap, f, rfl, hp, hc, hm, hl, rfl⟩
  · go_enter Try.func42, Try.ntmps42
    go_wp2_with fail
    go_loop [1, 5] (fun k i => k = .int .i64 m ∧ i = .int .i64 0) (fun _ _ => 0)
    case atStart => exact ⟨rfl, rfl⟩
    case round =>
      obtain ⟨rfl, rfl⟩ := hrel
      go_wp2_with fail
      go_ret
      exact ⟨ret_i (by simp [Co.cnt, ccntL]), .inl ⟨by simp only [mkCL], rfl, a, cap, rfl⟩, Only.refl _ _⟩
  · unfold maxLen at hm
    obtain ⟨fps, hfl, rfl, hel⟩ := atCL_idx hl
    obtain ⟨hbn, hnf⟩ := List.nodup_cons.1 hnd
    have HEL := hid hel
    have HND := hid hnf
    have HBN := hid hbn
    have HFZ := hid hfz
    have HFL := hid hfl
    have hcnt := offC_all ts
    have hbd := offC_bd ts
    have HCNT := hid hcnt
    have HBD := hid hbd
    have hblt : b < w.heap.size := by
      obtain ⟨k, g, l, s, e0, _⟩ := hel 0 hp (by omega)
      exact World.block_lt_of_cell? _ _ e0
    have hzb : ∀ o, w.frozen? ⟨b, o, none⟩ = false := hfz b (by simp)
    have HZB := hid hzb
    have HM1 := hid hm1
    clear hel hbn hnf hnd hfz hl hcnt hbd hfl hzb hm1
    go_enter Try.func42, Try.ntmps42
    go_wp2_with fail
    go_loopw [1, 5] (fun k i wr => ∃ j : Nat, j ≤ ts.length ∧ i = .int .i64 j ∧ k = .int .i64 (m + offC ts j) ∧ Only (b :: fps.flatten) w wr ∧ ∀ i (h : i < ts.length) (h' : i < fps.length), ElemC wr b o i (partC ts m j i) fps[i])
      (fun _ i _ => ts.length - (intOf i).toNat)
    case atStart =>
      refine ⟨0, Nat.zero_le _, rfl, ?_, Only.refl _ _, fun i h h' => ?_⟩
      · cases ts <;> simp [offC]
      · have := HEL.out i h h'
        simpa [partC, List.getElem?_eq_getElem h] using this
    case round =>
      obtain ⟨j, hj, rfl, rfl, hon, hel⟩ := hrel
      by_cases hlk : j < ts.length
      · have hjf : j < fps.length := by rw [HFL.out]; exact hlk
        obtain ⟨k0, g0, l0, s0, c0, c1, c2, c3, hs0, _⟩ := hel j hlk hjf
        have hz0 : ∀ o', wr.frozen? ⟨b, o', none⟩ = false := fun o' => (hon.frozen b _ hblt).trans (HZB.out _)
        have hpt : partC ts m j j = ts[j] := by simp [partC, List.getElem?_eq_getElem hlk]
        rw [hpt] at hs0
        have hofs := offC_succ hlk
        have hb0 := (HBD.out j)
        have hb1 := (HBD.out (j + 1))
        have hk1 : 0 ≤ m + offC ts j ∧ m + offC ts j + 3 ≤ 1073741824 := by have := HM1.out; have := HCNT.out; omega
        obtain ⟨hk1a, hk1b⟩ := hk1
        obtain ⟨a0, cap0, hsh⟩ := hs0.shape
        subst hsh
        have HEL2 := hid hel
        have HS0 := hid hs0
        have HOF := hid hofs
        have HB1 := hid hb1
        have HON := hid hon
        have hm3 : m + offC ts j + 1 + 1 = m + offC ts j + 2 := by omega
        have hm4 : m + offC ts j + 2 + 1 = m + offC ts j + 3 := by omega
        have HM3 := hid hm3
        have HM4 := hid hm4
        clear hel hs0 hpt hofs hb0 hb1 hon hm3 hm4
        have c11 := fun u : Value => (cell_setCell_other (w := wr) (b := b) (o := o + j * 4) (o' := o + j * 4 + 1) (by omega) u).trans c1
        have c12 := fun u u' : Value => ((cell_setCell_other (w := wr.setCell ⟨b, o + j * 4, none⟩ u) (b := b) (o := o + j * 4 + 1) (o' := o + j * 4 + 2) (by omega) u').trans (cell_setCell_other (by omega) _)).trans c2
        have c13 := fun u u' u'' : Value => ((cell_setCell_other (w := (wr.setCell ⟨b, o + j * 4, none⟩ u).setCell ⟨b, o + j * 4 + 1, none⟩ u') (b := b) (o := o + j * 4 + 2) (o' := o + j * 4 + 3) (by omega) u'').trans ((cell_setCell_other (by omega) _).trans (cell_setCell_other (by omega) _))).trans c3
        go_wp2_with fail
        have hput : ((wr.setCell ⟨b, o + j * 4, none⟩ (.int .i64 (m + offC ts j))).setCell ⟨b, o + j * 4 + 1, none⟩ (.int .i64 (m + offC ts j + 1))).setCell ⟨b, o + j * 4 + 2, none⟩ (.int .i64 (m + offC ts j + 2)) = put3 wr b (o + j * 4) (.int .i64 (m + offC ts j)) (.int .i64 (m + offC ts j + 1)) (.int .i64 (m + offC ts j + 2)) := rfl
        have HPUT := hid hput
        clear hput
        rw [HM3.out, HM4.out, HPUT.out]
        refine (HIH.out _ (List.getElem_mem hlk) _ fps[j] _ _ (HS0.out.congr fun x hx o' => put3_ne _ _ _ (fun e => HBN.out (by rw [← e]; exact flatten_sub hjf x hx))) (flatten_nodup hjf HND.out) ?_ (by omega) ?_).mono ?_
        · intro x hx o'
          rw [put3_frozen, HON.out.frozen x o' ((HEL.out j hlk hjf).lt x hx)]
          exact HFZ.out x (List.mem_cons_of_mem _ (flatten_sub hjf x hx)) o'
        · have := HOF.out
          have := HB1.out
          have := HM1.out
          have := ccnt_kids ts[j]
          omega
        rintro e w1 ⟨rfl, hs1, hon1⟩
        have HR := hid (show ElemC w1 b o j (partC ts m (j + 1) j) fps[j] from markElemC hlk hjf HBN.out hon1 c0 c1 c2 c3 hs1)
        have HR2 := hid (markOtherC hlk hjf HBN.out HND.out hon1 (Nat.lt_of_lt_of_le hblt HON.out.size) HEL2.out)
        have HON2 := hid ((HON.out.trans (Only.put3 (b := b) (o := o + j * 4) (by simp) _ _ _)).trans (hon1.sub (fun x hx => List.mem_cons_of_mem _ (flatten_sub hjf x hx))))
        have HCK := hid (ccnt_kids ts[j])
        clear hs1 hon1 c0 c1 c2 c3 c11 c12 c13 hz0
        go_wp2_with fail
        refine ⟨⟨j + 1, by omega, by go_num, ?_, HON2.out, fun i h h' => ?_⟩, by simp [intOf]; omega⟩
        · rw [HOF.out, HCK.out]
          congr 1
          omega
        · by_cases hij : i = j
          · subst hij
            exact HR.out
          · exact HR2.out i h h' hij
      · have hjl : j = ts.length := by omega
        have HE := hid hel
        have HON := hid hon
        clear hel hon
        go_wp2_with fail
        go_ret
        refine ⟨ret_i (by rw [hjl, HCNT.out]), .inr ⟨b, o, cap, fps.flatten, by rw [mkCL_len], by rw [mkCL_len]; exact hp, by rw [mkCL_len]; exact hc, by rw [mkCL_len]; unfold maxLen; omega, idx_atCL (by rw [mkCL_len]; exact HFL.out) (fun i h h' => ?_), rfl⟩, HON.out⟩
        have hi : i < ts.length := by rw [mkCL_len] at h; exact h
        have := HE.out i hi h'
        rw [partC, if_pos (by omega), List.getElem?_eq_getElem h] at this
        exact this

theorem markCoerS_any (ts : List Co) : MkCC ts := by
  have h : ∀ t : Co, MkCC (kidsC t) := Co.ind fun k g l ts ih => markCoerS_of ts ih
  exact h (.mk 0 0 0 ts)

end Go.Proofs.Ytgiimijooabioaa

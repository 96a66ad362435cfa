/- The reading of a type's text as a plain function; the program's cursor. The program's readType and readOperands. ParseType, of the program. ParseType, of the specification. -/
import Derived.Test.YtelbpgdlcnnabaaTxt
import Derived.Test.YtelbpgdlcnnabaaCx
import Derived.Test.YtelbpgdlcnnabaaPkA
import Derived.Deep.RegionHeld3
import Derived.Test.YtelbpgdlcnnabaaTwoIn
namespace Go.Proofs.Ytelbpgdlcnnabaa
open Go.RowKit

/-- The byte at a place; nought behind the end. -/
def byt (s : ByteArray) (i : Nat) : Nat := if h : i < s.size then (s[i]'h).toNat else 0

/-- The place behind the byte that is read there. -/
def nxt (s : ByteArray) (i : Nat) : Nat := if i < s.size then i + 1 else i

/-- The kind of a sign; nought of a byte that is none. -/
def kos (c : Nat) : Int := if c = 63 then 1 else if c = 73 then 2 else if c = 66 then 3 else if c = 62 then 4 else if c = 42 then 5 else 0

/-- What follows an opening parenthesis, p reading the operands. -/
def oprW (s : ByteArray) (p : Nat → Option (Ty × Nat)) (i : Nat) : Option (Ty × Nat) :=
  match p i with
  | none => none
  | some (a, j) =>
    if byt s j = 62 ∨ byt s j = 42 then
      match p (j + 1) with
      | none => none
      | some (b, l) => if byt s l = 41 then some (.mk (kos (byt s j)) [a, b], l + 1) else none
    else none

/-- A type's text from a place on, of at most so many levels: the tree and the place behind it. -/
def prs (s : ByteArray) : Nat → Nat → Option (Ty × Nat)
  | 0, _ => none
  | d + 1, i =>
    if byt s i = 40 then oprW s (prs s d) (i + 1)
    else if byt s i = 63 ∨ byt s i = 73 ∨ byt s i = 66 then some (.mk (kos (byt s i)) [], i + 1)
    else none

theorem ret_y {a b : Int} (h : a = b) : Ending.returned (.int .u8 a) = .returned (.int .u8 b) := by rw [h]

theorem byt_lt (s : ByteArray) (i : Nat) : byt s i < 256 := by
  unfold byt
  split
  · exact (s[i]).toNat_lt
  · omega

theorem byt_in {s : ByteArray} {i : Nat} (h : byt s i ≠ 0) : i < s.size := by
  unfold byt at h
  split at h
  · assumption
  · exact absurd rfl h

theorem nxt_in {s : ByteArray} {i : Nat} (h : byt s i ≠ 0) : nxt s i = i + 1 := if_pos (byt_in h)

theorem nxt_le {s : ByteArray} {i : Nat} (h : i ≤ s.size) : nxt s i ≤ s.size := by
  unfold nxt
  split <;> omega

theorem oprW_le {s : ByteArray} {p : Nat → Option (Ty × Nat)} {i j : Nat} {t : Ty} (h : oprW s p i = some (t, j)) : j ≤ s.size := by
  unfold oprW at h
  split at h
  · cases h
  · split at h
    · split at h
      · cases h
      · split at h
        · rename_i hb
          have := byt_in (show byt s _ ≠ 0 by rw [hb]; decide)
          simp only [Option.some.injEq, Prod.mk.injEq] at h
          omega
        · cases h
    · cases h

theorem prs_le {s : ByteArray} {d i j : Nat} {t : Ty} (h : prs s d i = some (t, j)) : j ≤ s.size := by
  cases d with
  | zero => simp [prs] at h
  | succ d =>
    simp only [prs] at h
    split at h
    · exact oprW_le h
    · split at h
      · rename_i hb
        have := byt_in (s := s) (i := i) (by omega)
        simp only [Option.some.injEq, Prod.mk.injEq] at h
        omega
      · cases h

set_option maxRecDepth 100000 in
theorem kos_index : ∀ c : Fin 256, Lib.indexByte [63, 73, 66, 62, 42] c.val.toUInt8 + 1 = kos c.val := by decide

theorem kos_two (c : Nat) : kidsOf (kos c) = 2 ↔ c = 62 ∨ c = 42 := by
  unfold kos
  repeat (split; · simp [kidsOf]; omega)
  simp [kidsOf]
  omega

theorem kos_zero (c : Nat) : kidsOf (kos c) = 0 ↔ c = 63 ∨ c = 73 ∨ c = 66 := by
  unfold kos
  repeat (split; · simp [kidsOf]; omega)
  simp [kidsOf]
  omega

theorem oprW_shp {s : ByteArray} {d : Nat} {p : Nat → Option (Ty × Nat)} {i j : Nat} {t : Ty} (hp : ∀ i j t, p i = some (t, j) → shp d t = true) (h : oprW s p i = some (t, j)) : shp (d + 1) t = true := by
  unfold oprW at h
  split at h
  · cases h
  · rename_i a j1 ha
    split at h
    · rename_i hs
      split at h
      · cases h
      · rename_i b l hb
        split at h
        · simp only [Option.some.injEq, Prod.mk.injEq] at h
          obtain ⟨rfl, _⟩ := h
          simp [shp, (kos_two _).2 hs, hp _ _ _ ha, hp _ _ _ hb]
        · cases h
    · cases h

theorem prs_shp {s : ByteArray} : ∀ {d i j : Nat} {t : Ty}, prs s d i = some (t, j) → shp d t = true
  | 0, i, j, t, h => by simp [prs] at h
  | d + 1, i, j, t, h => by
    simp only [prs] at h
    split at h
    · exact oprW_shp (fun i j t h => prs_shp h) h
    · split at h
      · rename_i hk
        simp only [Option.some.injEq, Prod.mk.injEq] at h
        obtain ⟨rfl, _⟩ := h
        simp [shp, (kos_zero _).2 hk]
      · cases h

theorem shp_cnt : ∀ {d : Nat} {t : Ty}, shp d t = true → t.cnt + 2 ≤ 2 * 2 ^ d
  | 0, t, h => by simp [shp] at h
  | d + 1, .mk k ts, h => by
    rcases shp_cases h with ⟨rfl, _⟩ | ⟨a, b, rfl, _, ha, hb⟩
    · have : 0 < 2 ^ d := Nat.pow_pos (by omega)
      simp only [Ty.cnt, cntL, List.length_nil, Nat.pow_succ]
      omega
    · have h1 := shp_cnt ha
      have h2 := shp_cnt hb
      simp only [Ty.cnt, cntL, List.length_cons, List.length_nil, Nat.pow_succ]
      omega


/-- A cursor over a text, at a place. -/
def CurAt (b : Nat) (s : ByteArray) (i : Nat) (w : World) : Prop := w.heap[b]? = some (.cells #[.string s, .int .i64 (i : Int)] 70 (0, 0)) ∧ i ≤ s.size ∧ s.size ≤ 1048576

theorem CurAt.below {b : Nat} {s : ByteArray} {i : Nat} {w w' : World} (h : CurAt b s i w) (hb : Below w.heap.size w w') : CurAt b s i w' := ⟨(hb.block b (lt_of_block h.1)).trans h.1, h.2⟩
theorem CurAt.lt {b : Nat} {s : ByteArray} {i : Nat} {w : World} (h : CurAt b s i w) : b < w.heap.size := lt_of_block h.1

theorem CurAt.cells {b : Nat} {s : ByteArray} {i : Nat} {w : World} (h : CurAt b s i w) : w.cell? ⟨b, 0, none⟩ = some (.string s) ∧ w.cell? ⟨b, 1, none⟩ = some (.int .i64 (i : Int)) ∧ ∀ o, w.frozen? ⟨b, o, none⟩ = false :=
  ⟨by rw [cell_of_block h.1]; rfl, by rw [cell_of_block h.1]; rfl, fun o => frozen_of_block h.1⟩

theorem CurAt.set {b : Nat} {s : ByteArray} {i : Nat} {w : World} (h : CurAt b s i w) (hi : i < s.size) : CurAt b s (i + 1) (w.setCell ⟨b, 1, none⟩ (.int .i64 ((i + 1 : Nat) : Int))) :=
  ⟨by rw [heap_setCell_at h.1]; simp, hi, h.2.2⟩

theorem CurAt.setNew {b : Nat} {s : ByteArray} {i : Nat} {w : World} (h : CurAt b s i w) {p : Addr} (hp : p.block ≠ b) (u : Value) : CurAt b s i (w.setCell p u) :=
  ⟨(Below.heap_setCell w p u b (Ne.symm hp)).trans h.1, h.2⟩

set_option maxHeartbeats 400000 in
theorem atEnd_any (b : Nat) (s : ByteArray) (i : Nat) (w : World) (h : CurAt b s i w) :
    Calls Try.prog 86 #[.pointer (some ⟨b, 0, none⟩)] w fun e w' => e = .returned (.bool ((i : Int) == (s.size : Int))) ∧ Below w.heap.size w w' := by
  obtain ⟨c0, c1, fz⟩ := h.cells
  have hi := h.2.1
  have hs := h.2.2
  clear h
  go_enter Try.func86, Try.ntmps86
  go_wp2_with fail
  go_quiet (fail)
  go_wp2_with fail
  go_ret
  exact ⟨rfl, belowN (Below.refl _ _) _⟩

set_option maxHeartbeats 400000 in
theorem peek_any (b : Nat) (s : ByteArray) (i : Nat) (w : World) (h : CurAt b s i w) :
    Calls Try.prog 116 #[.pointer (some ⟨b, 0, none⟩)] w fun e w' => e = .returned (.int .u8 (byt s i : Int)) ∧ Below w.heap.size w w' := by
  have H := hid h
  have hi := h.2.1
  have hs := h.2.2
  clear h
  by_cases hlt : i < s.size
  · have hq : ((i : Int) == (s.size : Int)) = false := by simp; omega
    have HQ := hid hq
    have HB := hid (show (byt s i : Int) = ((s[i]'hlt).toNat : Int) by simp [byt, hlt])
    clear hq
    go_enter Try.func116, Try.ntmps116
    go_wp2_with fail
    refine (atEnd_any b s i _ H.out).mono ?_
    rintro e w1 ⟨he, hb⟩
    rw [HQ.out] at he
    subst he
    obtain ⟨c0, c1, fz⟩ := (H.out.below hb).cells
    go_wp2_with fail
    go_quiet (fail)
    go_wp2_with fail
    go_ret
    exact ⟨ret_y HB.out.symm, belowN hb _⟩
  · have hq : ((i : Int) == (s.size : Int)) = true := by simp; omega
    have HQ := hid hq
    have HB := hid (show (byt s i : Int) = 0 by simp [byt, hlt])
    clear hq
    go_enter Try.func116, Try.ntmps116
    go_wp2_with fail
    refine (atEnd_any b s i _ H.out).mono ?_
    rintro e w1 ⟨he, hb⟩
    rw [HQ.out] at he
    subst he
    go_wp2_with fail
    go_ret
    exact ⟨ret_y HB.out.symm, hb⟩

set_option maxHeartbeats 400000 in
theorem next_any (b : Nat) (s : ByteArray) (i : Nat) (w : World) (h : CurAt b s i w) :
    Calls Try.prog 108 #[.pointer (some ⟨b, 0, none⟩)] w fun e w' => e = .returned (.int .u8 (byt s i : Int)) ∧ CurAt b s (nxt s i) w' ∧ Cx b w w' := by
  have H := hid h
  have hi := h.2.1
  have hs := h.2.2
  clear h
  by_cases hlt : i < s.size
  · have hq : ((i : Int) == (s.size : Int)) = false := by simp; omega
    have HQ := hid hq
    have HN := hid (show nxt s i = i + 1 from if_pos hlt)
    clear hq
    go_enter Try.func108, Try.ntmps108
    go_wp2_with fail
    refine (peek_any b s i _ H.out).mono ?_
    rintro e w1 ⟨rfl, hb1⟩
    have H1 := hid (H.out.below hb1)
    go_wp2_with fail
    refine (atEnd_any b s i _ H1.out).mono ?_
    rintro e w2 ⟨he, hb2⟩
    rw [HQ.out] at he
    subst he
    have H2 := hid (H1.out.below hb2)
    obtain ⟨c0, c1, fz⟩ := H2.out.cells
    have HBB := hid (below_trans hb1 hb2)
    clear hb1 hb2
    go_wp2_with fail
    go_ret
    refine ⟨rfl, ?_, (Cx.of_below HBB.out).setCell 1 _⟩
    rw [HN.out]
    exact H2.out.set hlt
  · have hq : ((i : Int) == (s.size : Int)) = true := by simp; omega
    have HQ := hid hq
    have HN := hid (show nxt s i = i from if_neg hlt)
    clear hq
    go_enter Try.func108, Try.ntmps108
    go_wp2_with fail
    refine (peek_any b s i _ H.out).mono ?_
    rintro e w1 ⟨rfl, hb1⟩
    have H1 := hid (H.out.below hb1)
    go_wp2_with fail
    refine (atEnd_any b s i _ H1.out).mono ?_
    rintro e w2 ⟨he, hb2⟩
    rw [HQ.out] at he
    subst he
    go_wp2_with fail
    go_ret
    refine ⟨rfl, ?_, Cx.of_below (below_trans hb1 hb2)⟩
    rw [HN.out]
    exact H1.out.below hb2

set_option maxHeartbeats 400000 in
theorem kindOfSign_any (c : Nat) (hc : c < 256) (w : World) :
    Calls Try.prog 110 #[.int .u8 (c : Int)] w fun e w' => e = .returned (.int .i64 (kos c)) ∧ w' = w := by
  have HK := hid (show Lib.indexByte (⟨#[63, 73, 66, 62, 42]⟩ : ByteArray).data.toList ((c : Int).toNat.toUInt8) + 1 = kos c from kos_index ⟨c, hc⟩)
  have hb : -1 ≤ kos c ∧ kos c ≤ 5 := by unfold kos; repeat (split; · omega); omega
  obtain ⟨hb1, hb2⟩ := hb
  go_enter Try.func110, Try.ntmps110
  go_wp2_with fail
  refine (indexByte_any _ _ _).mono ?_
  rintro e w1 ⟨rfl, rfl⟩
  have hv := HK.out
  generalize Lib.indexByte (⟨#[63, 73, 66, 62, 42]⟩ : ByteArray).data.toList ((c : Int).toNat.toUInt8) = r at *
  have HV := hid hv
  have h1 : -2 ≤ r := by omega
  have h2 : r ≤ 4 := by omega
  clear hv
  go_wp2_with fail
  go_ret
  exact ⟨ret_i HV.out, rfl⟩

/-- What reading says: nothing was read, or a tree in new memory. -/
def Rd (b : Nat) (s : ByteArray) (r : Option (Ty × Nat)) (w : World) (e : Ending) (w' : World) : Prop :=
  (r = none ∧ e = .returned (.tuple #[.agg #[.int .i64 0, .slice none 0 0], .bool false]) ∧ (∃ j, CurAt b s j w') ∧ Cx b w w') ∨
  ∃ t j k n a c fp, r = some (t, j) ∧ e = .returned (.tuple #[.agg #[.int .i64 k, .slice a n c], .bool true]) ∧ t.At w' (.agg #[.int .i64 k, .slice a n c]) fp ∧ Fresh w.heap.size w' fp ∧ CurAt b s j w' ∧ Cx b w w'

def RtC (d : Nat) : Prop := ∀ (n : Int) (b : Nat) (s : ByteArray) (i : Nat) (w : World), n ≤ 100 → n.toNat = d → CurAt b s i w →
  Calls Try.prog 85 #[.pointer (some ⟨b, 0, none⟩), .int .i64 n] w (Rd b s (prs s d i) w)

def RoC (d : Nat) : Prop := ∀ (n : Int) (b : Nat) (s : ByteArray) (i : Nat) (w : World), n ≤ 100 → n.toNat = d → CurAt b s i w →
  Calls Try.prog 109 #[.pointer (some ⟨b, 0, none⟩), .int .i64 n] w (Rd b s (oprW s (prs s d) i) w)

/-- The result's cells stand while a cursor moves on. -/
theorem res_box {w wr : World} {b : Nat} (h : Cx b (w.alloc (Obj.cells #[.int .i64 0, .slice none 0 0] 25)) wr) (hb : b < w.heap.size) :
    wr.cell? ⟨w.heap.size, 0, none⟩ = some (.int .i64 0) ∧ wr.cell? ⟨w.heap.size, 1, none⟩ = some (.slice none 0 0) ∧ (∀ o, wr.frozen? ⟨w.heap.size, o, none⟩ = false) ∧ w.heap.size < wr.heap.size := by
  have hk := h.blk (alloc_new w _) (by omega)
  exact ⟨by rw [cell_of_block hk]; rfl, by rw [cell_of_block hk]; rfl, fun o => frozen_of_block hk, lt_of_block hk⟩

/-- The end of a call that has laid its answer into the result's cells. -/
theorem rd_none {b : Nat} {s : ByteArray} {j : Nat} {w wr : World} (h : Cx b (w.alloc (Obj.cells #[.int .i64 0, .slice none 0 0] 25)) wr) (hb : b < w.heap.size) (hc : CurAt b s j wr) (x y : Value) :
    (∃ j, CurAt b s j ((wr.setCell ⟨w.heap.size, 0, none⟩ x).setCell ⟨w.heap.size, 1, none⟩ y)) ∧ Cx b w ((wr.setCell ⟨w.heap.size, 0, none⟩ x).setCell ⟨w.heap.size, 1, none⟩ y) :=
  ⟨⟨j, (hc.setNew (by simp; omega) x).setNew (by simp; omega) y⟩, ((((Cx.refl b w).alloc _).trans h).setNew (by simp) x).setNew (by simp) y⟩

set_option maxHeartbeats 400000 in
theorem readType_zero : RtC 0 := by
  intro n b s i w hn0 hn hc
  have hn2 : decide (n < 1) = true := by simp; omega
  have hn1 : n < 1 := by omega
  have H := hid (hc.below ((Below.refl _ _).alloc (Nat.le_refl _) (Obj.cells #[.int .i64 0, .slice none 0 0] 25)))
  have HF := hid ((Cx.refl b w).alloc (Obj.cells #[.int .i64 0, .slice none 0 0] 25))
  clear hn hc
  go_enter Try.func85, Try.ntmps85
  go_wp2_with fail
  exact bodyPost_ret (v := .tuple #[.agg #[.int .i64 0, .slice none 0 0], .bool false]) (by simp [results, Try.results85, go_sem]) rfl (.inl ⟨by simp only [prs], rfl, ⟨i, H.out⟩, HF.out⟩)

set_option maxHeartbeats 1000000 in
theorem readType_succ (d : Nat) (ih : RoC d) : RtC (d + 1) := by
  intro n b s i w hn0 hn hc
  have HIH := hid ih
  clear ih
  have hn1 : 1 ≤ n := by omega
  have hn2 : decide (n < 1) = false := by simp; omega
  have HN := hid hn
  have hb := hc.lt
  have H := hid (hc.below ((Below.refl _ _).alloc (Nat.le_refl _) (Obj.cells #[.int .i64 0, .slice none 0 0] 25)))
  have HB := hid (byt_lt s i)
  clear hn hc
  by_cases hp : byt s i = 40
  · have HP := hid (show prs s (d + 1) i = oprW s (prs s d) (i + 1) by simp only [prs, if_pos hp])
    have HX := hid (nxt_in (s := s) (i := i) (by omega))
    have HPP := hid hp
    clear hp
    go_enter Try.func85, Try.ntmps85
    go_wp2_with fail
    refine (next_any b s i _ H.out).mono ?_
    rintro e w1 ⟨he, hc1, hx1⟩
    rw [HPP.out] at he
    rw [HX.out] at hc1
    subst he
    have HC1 := hid hc1
    have HX1 := hid hx1
    clear hc1 hx1
    go_wp2_with fail
    refine (HIH.out (n - 1) b s (i + 1) _ (by omega) (by have := HN.out; omega) HC1.out).mono ?_
    rintro e w2 (⟨hr, rfl, ⟨j, hc2⟩, hx2⟩ | ⟨t, j, k, m, a, c, fp, hr, rfl, hat, hf, hc2, hx2⟩)
    · have hxx := HX1.out.trans hx2
      obtain ⟨r0, r1, rz, hM⟩ := res_box hxx hb
      have HF := hid (rd_none hxx hb hc2 (.int .i64 0) (.slice none 0 0))
      have HR := hid (HP.out.trans hr)
      clear hr hc2 hx2 hxx
      go_wp2_with fail
      exact bodyPost_ret (v := .tuple #[.agg #[.int .i64 0, .slice none 0 0], .bool false]) (by simp [results, Try.results85, go_sem, r0, r1]) rfl (.inl ⟨HR.out, rfl, HF.out.1, HF.out.2⟩)
    · have hxx := HX1.out.trans hx2
      obtain ⟨r0, r1, rz, hM⟩ := res_box hxx hb
      have HF := hid (And.intro ((hc2.setNew (p := ⟨w.heap.size, 0, none⟩) (by simp; omega) (.int .i64 k)).setNew (p := ⟨w.heap.size, 1, none⟩) (by simp; omega) (.slice a m c)) (rd_none hxx hb hc2 (.int .i64 k) (.slice a m c)).2)
      have hne : ∀ x ∈ fp, x ≠ w.heap.size := fun x hx e => by have h1 := (hf.2 x hx).1; have h2 := HX1.out.size; simp at h2; omega
      have HT := hid ((hat.setCell (a := ⟨w.heap.size, 0, none⟩) hne (.int .i64 k)).setCell (a := ⟨w.heap.size, 1, none⟩) hne (.slice a m c))
      have HFR := hid (((hf.mono (B' := w.heap.size) (by have h2 := HX1.out.size; simp at h2; omega)).setCell (a := ⟨w.heap.size, 0, none⟩) hne (.int .i64 k)).setCell (a := ⟨w.heap.size, 1, none⟩) hne (.slice a m c))
      have HR := hid (HP.out.trans hr)
      clear hr hc2 hx2 hxx hat hf hne
      go_wp2_with fail
      exact bodyPost_ret (v := .tuple #[.agg #[.int .i64 k, .slice a m c], .bool true]) (by simp [results, Try.results85, go_sem, r0, r1]) rfl (.inr ⟨t, j, k, m, a, c, fp, HR.out, rfl, HT.out, HFR.out, HF.out.1, HF.out.2⟩)
  · have hq1 : ((byt s i : Int) == 40) = false := by simp; omega
    by_cases hk : byt s i = 63 ∨ byt s i = 73 ∨ byt s i = 66
    · have HP := hid (show prs s (d + 1) i = some (.mk (kos (byt s i)) [], i + 1) by simp only [prs, if_neg hp, if_pos hk])
      have HX := hid (nxt_in (s := s) (i := i) (by omega))
      have HK := hid ((kos_zero (byt s i)).2 hk)
      clear hp hk
      go_enter Try.func85, Try.ntmps85
      go_wp2_with fail
      refine (next_any b s i _ H.out).mono ?_
      rintro e w1 ⟨rfl, hc1, hx1⟩
      rw [HX.out] at hc1
      obtain ⟨r0, r1, rz, hM⟩ := res_box hx1 hb
      have HF := hid (And.intro ((hc1.setNew (p := ⟨w.heap.size, 0, none⟩) (by simp; omega) (.int .i64 (kos (byt s i)))).setNew (p := ⟨w.heap.size, 1, none⟩) (by simp; omega) (.slice none 0 0)) (rd_none hx1 hb hc1 (.int .i64 (kos (byt s i))) (.slice none 0 0)).2)
      clear hc1 hx1
      go_wp2_with fail
      refine (kindOfSign_any _ HB.out _).mono ?_
      rintro e w2 ⟨rfl, rfl⟩
      go_wp2_with fail
      refine (typeOperands_any _ _).mono ?_
      rintro e w3 ⟨he, rfl⟩
      rw [HK.out] at he
      subst he
      go_wp2_with fail
      exact bodyPost_ret (v := .tuple #[.agg #[.int .i64 (kos (byt s i)), .slice none 0 0], .bool true]) (by simp [results, Try.results85, go_sem, r0, r1]) rfl (.inr ⟨_, _, _, _, _, _, [], HP.out, rfl, Ty.at_mk.2 ⟨_, rfl, .inl ⟨rfl, rfl, none, 0, rfl⟩⟩, Fresh.nil _ _, HF.out.1, HF.out.2⟩)
    · have HP := hid (show prs s (d + 1) i = none by simp only [prs, if_neg hp, if_neg hk])
      have hk0 : kidsOf (kos (byt s i)) ≠ 0 := fun h => hk ((kos_zero (byt s i)).1 h)
      have hk1 : (kidsOf (kos (byt s i)) != 0) = true := by simpa using hk0
      have hk2 : (kidsOf (kos (byt s i)) == 0) = false := by simpa using hk0
      clear hp hk
      go_enter Try.func85, Try.ntmps85
      go_wp2_with fail
      refine (next_any b s i _ H.out).mono ?_
      rintro e w1 ⟨rfl, hc1, hx1⟩
      obtain ⟨r0, r1, rz, hM⟩ := res_box hx1 hb
      have HF := hid (rd_none hx1 hb hc1 (.int .i64 0) (.slice none 0 0))
      clear hc1 hx1
      go_wp2_with fail
      refine (kindOfSign_any _ HB.out _).mono ?_
      rintro e w2 ⟨rfl, rfl⟩
      go_wp2_with fail
      refine (typeOperands_any _ _).mono ?_
      rintro e w3 ⟨rfl, rfl⟩
      go_wp2_with fail
      exact bodyPost_ret (v := .tuple #[.agg #[.int .i64 0, .slice none 0 0], .bool false]) (by simp [results, Try.results85, go_sem, r0, r1]) rfl (.inl ⟨HP.out, rfl, HF.out.1, HF.out.2⟩)
/-- The same, a block having been laid beside it. -/
theorem rd_none2 {b : Nat} {s : ByteArray} {j : Nat} {w wr : World} (h : Cx b (w.alloc (Obj.cells #[.int .i64 0, .slice none 0 0] 25)) wr) (hb : b < w.heap.size) (hc : CurAt b s j wr) (x y : Value) (Q : Obj) :
    (∃ j, CurAt b s j (((wr.setCell ⟨w.heap.size, 0, none⟩ x).setCell ⟨w.heap.size, 1, none⟩ y).alloc Q)) ∧ Cx b w (((wr.setCell ⟨w.heap.size, 0, none⟩ x).setCell ⟨w.heap.size, 1, none⟩ y).alloc Q) ∧ (((wr.setCell ⟨w.heap.size, 0, none⟩ x).setCell ⟨w.heap.size, 1, none⟩ y).alloc Q).cell? ⟨w.heap.size, 0, none⟩ = some x ∧ (((wr.setCell ⟨w.heap.size, 0, none⟩ x).setCell ⟨w.heap.size, 1, none⟩ y).alloc Q).cell? ⟨w.heap.size, 1, none⟩ = some y := by
  obtain ⟨⟨j', h1⟩, h2⟩ := rd_none h hb hc x y
  have h3 := (fin_b (h.blk (alloc_new w _) (by omega)) x y Q).2.1
  exact ⟨⟨j', h1.below ((Below.refl _ _).alloc (Nat.le_refl _) _)⟩, h2.alloc Q, by rw [cell_of_block h3]; rfl, by rw [cell_of_block h3]; rfl⟩

/-- A block just laid of a type's two cells stands while a cursor moves on. -/
theorem left_box {w wr : World} {b : Nat} {x y : Value} (h : Cx b (w.alloc (Obj.cells #[x, y] 25)) wr) (hb : b < w.heap.size) :
    wr.cell? ⟨w.heap.size, 0, none⟩ = some x ∧ wr.cell? ⟨w.heap.size, 1, none⟩ = some y := by
  have hk := h.blk (alloc_new w _) (by omega)
  exact ⟨by rw [cell_of_block hk]; rfl, by rw [cell_of_block hk]; rfl⟩

set_option maxHeartbeats 2000000 in
set_option maxRecDepth 100000 in
theorem readOperands_of (d : Nat) (ih : RtC d) : RoC d := by
  intro n b s i w hn0 hn hc
  have HIH := hid ih
  clear ih
  have HN := hid hn
  have hb := hc.lt
  have H := hid (hc.below ((Below.refl _ _).alloc (Nat.le_refl _) (Obj.cells #[.int .i64 0, .slice none 0 0] 25)))
  clear hn hc
  go_enter Try.func109, Try.ntmps109
  go_wp2_with fail
  refine (HIH.out n b s i _ hn0 HN.out H.out).mono ?_
  rintro e w1 (⟨hr, rfl, ⟨j, hc1⟩, hx1⟩ | ⟨t, j, k, m, a, c, fp, hr, rfl, hat, hf, hc1, hx1⟩)
  · obtain ⟨r0, r1, rz, hM⟩ := res_box hx1 hb
    obtain ⟨g1, g2, q0, q1⟩ := rd_none2 hx1 hb hc1 (.int .i64 0) (.slice none 0 0) (Obj.cells #[.int .i64 0, .slice none 0 0] 25)
    have HF := hid (And.intro g1 g2)
    have HR := hid (show oprW s (prs s d) i = none by simp only [oprW, hr])
    clear hr hc1 hx1 g1 g2
    go_wp2_with fail
    exact bodyPost_ret (v := .tuple #[.agg #[.int .i64 0, .slice none 0 0], .bool false]) (by simp [results, Try.results109, go_sem, q0, q1]) rfl (.inl ⟨HR.out, rfl, HF.out.1, HF.out.2⟩)
  have hsz1 : w.heap.size + 1 ≤ w1.heap.size := by have := hx1.size; simp at this; omega
  have hb1 : b < w1.heap.size := hc1.lt
  have hal : Below w1.heap.size w1 (w1.alloc (Obj.cells #[.int .i64 k, .slice a m c] 25)) := (Below.refl _ _).alloc (Nat.le_refl _) _
  have HA := hid hal
  have HC1 := hid (hc1.below hal)
  have HX1 := hid hx1
  have HAT1 := hid hat
  have HF1 := hid hf
  have HB := hid (byt_lt s j)
  clear hc1 hx1 hat hf hal
  by_cases hs : byt s j = 62 ∨ byt s j = 42
  · have HK := hid ((kos_two (byt s j)).2 hs)
    have HX := hid (nxt_in (s := s) (i := j) (by omega))
    have HR1 := hid (show oprW s (prs s d) i = (match prs s d (j + 1) with | none => none | some (b, l) => if byt s l = 41 then some (.mk (kos (byt s j)) [t, b], l + 1) else none) by simp only [oprW, hr, if_pos hs] <;> rfl)
    clear hs hr
    go_wp2_with fail
    refine (next_any b s j _ HC1.out).mono ?_
    rintro e w2 ⟨rfl, hc2, hx2⟩
    rw [HX.out] at hc2
    go_wp2_with fail
    refine (kindOfSign_any _ HB.out _).mono ?_
    rintro e w2' ⟨rfl, rfl⟩
    go_wp2_with fail
    refine (typeOperands_any _ _).mono ?_
    rintro e w2' ⟨he, rfl⟩
    rw [HK.out] at he
    subst he
    have HC2 := hid hc2
    have HX2 := hid hx2
    clear hc2 hx2
    go_wp2_with fail
    refine (HIH.out n b s (j + 1) _ hn0 HN.out HC2.out).mono ?_
    rintro e w3 (⟨hr, rfl, ⟨l, hc3⟩, hx3⟩ | ⟨u, l, k2, m2, a2, c2, fp2, hr, rfl, hat2, hf2, hc3, hx3⟩)
    · have hxx := HX1.out.trans ((Cx.of_below HA.out).trans (HX2.out.trans hx3))
      obtain ⟨r0, r1, rz, hM⟩ := res_box hxx hb
      obtain ⟨g1, g2, q0, q1⟩ := rd_none2 hxx hb hc3 (.int .i64 0) (.slice none 0 0) (Obj.cells #[.int .i64 0, .slice none 0 0] 25)
      have HF := hid (And.intro g1 g2)
      have HR := hid (show oprW s (prs s d) i = none by rw [HR1.out, hr])
      clear hr hc3 hx3 g1 g2 hxx
      go_wp2_with fail
      exact bodyPost_ret (v := .tuple #[.agg #[.int .i64 0, .slice none 0 0], .bool false]) (by simp [results, Try.results109, go_sem, q0, q1]) rfl (.inl ⟨HR.out, rfl, HF.out.1, HF.out.2⟩)
    have hal : Below w3.heap.size w3 (w3.alloc (Obj.cells #[.int .i64 k2, .slice a2 m2 c2] 25)) := (Below.refl _ _).alloc (Nat.le_refl _) _
    have hb3 : b < w3.heap.size := hc3.lt
    have HA3 := hid hal
    have HC3 := hid (hc3.below hal)
    have HX3 := hid hx3
    have HAT2 := hid hat2
    have HF2 := hid hf2
    have HB2 := hid (byt_lt s l)
    have HR2 := hid (show oprW s (prs s d) i = if byt s l = 41 then some (.mk (kos (byt s j)) [t, u], l + 1) else none by rw [HR1.out, hr])
    clear hc3 hx3 hat2 hf2 hal hr
    by_cases hs2 : byt s l = 41
    · have hq : ((byt s l : Int) != 41) = false := by simp [hs2]
      have hq2 : ((byt s l : Int) == 41) = true := by simp [hs2]
      have HQ := hid hs2
      have HX := hid (nxt_in (s := s) (i := l) (by omega))
      have HR := hid (show oprW s (prs s d) i = some (.mk (kos (byt s j)) [t, u], l + 1) by rw [HR2.out, if_pos hs2])
      clear hs2 hq hq2
      go_wp2_with fail
      refine (next_any b s l _ HC3.out).mono ?_
      rintro e w4 ⟨he, hc4, hx4⟩
      rw [HQ.out] at he
      rw [HX.out] at hc4
      subst he
      obtain ⟨y0, y1⟩ := left_box hx4 hb3
      have hx34 := (Cx.of_below HA3.out).trans hx4
      have hx14 := HX2.out.trans (HX3.out.trans hx34)
      obtain ⟨x0, x1⟩ := left_box hx14 hb1
      have hx04 := HX1.out.trans ((Cx.of_below HA.out).trans hx14)
      obtain ⟨r0, r1, rz, hM⟩ := res_box hx04 hb
      obtain ⟨⟨j9, g1⟩, g2, q0, q1⟩ := rd_none2 hx04 hb hc4 (.int .i64 (kos (byt s j))) (.slice (some ⟨w4.heap.size, 0, none⟩) 2 2) (Obj.cells #[.int .i64 k, .slice a m c, .int .i64 k2, .slice a2 m2 c2] 25)
      obtain ⟨p1, p2, p3⟩ := fin_b (y := w4) (R := w.heap.size) (z0 := .int .i64 0) (z1 := .slice none 0 0) (T := 25) (hx04.blk (alloc_new w _) (by omega)) (.int .i64 (kos (byt s j))) (.slice (some ⟨w4.heap.size, 0, none⟩) 2 2) (Obj.cells #[.int .i64 k, .slice a m c, .int .i64 k2, .slice a2 m2 c2] 25)
      have hs12 : w1.heap.size + 1 ≤ w2'.heap.size := by have := HX2.out.size; simp at this; omega
      have hfz1 : ∀ x ∈ fp, x ≠ b := fun x hx e => by have := (HF1.out.2 x hx).1; simp at this; omega
      have hfz2 : ∀ x ∈ fp2, x ≠ b := fun x hx e => by have := (HF2.out.2 x hx).1; omega
      have ht4 := hx14.ty (HAT1.out.below HA.out) hfz1
      have hu4 := hx34.ty HAT2.out hfz2
      have hg4 : Fresh w.heap.size w4 fp := hx14.fresh ((HF1.out.below HA.out).mono (by simp)) hb |> fun h => h
      have hv4 : Fresh w2'.heap.size w4 fp2 := hx34.fresh HF2.out (by omega)
      have hfin := two_in (k := kos (byt s j)) ht4 hu4 hg4 hv4 (fun x hx => by have := (HF1.out.2 x hx).2.1; omega) (by omega) (by omega) (Nat.le_refl _) p1 p3 (fun x hx e => by have := (HF1.out.2 x hx).1; simp at this; omega) (fun x hx e => by have := (HF2.out.2 x hx).1; omega)
      have hcur : CurAt b s (l + 1) (((w4.setCell ⟨w.heap.size, 0, none⟩ (.int .i64 (kos (byt s j)))).setCell ⟨w.heap.size, 1, none⟩ (.slice (some ⟨w4.heap.size, 0, none⟩) 2 2)).alloc (Obj.cells #[.int .i64 k, .slice a m c, .int .i64 k2, .slice a2 m2 c2] 25)) := ((hc4.setNew (p := ⟨w.heap.size, 0, none⟩) (by simp; omega) _).setNew (p := ⟨w.heap.size, 1, none⟩) (by simp; omega) _).below ((Below.refl _ _).alloc (Nat.le_refl _) _)
      have HF := hid (And.intro hfin (And.intro hcur g2))
      clear hfin hcur g1 g2 hg4 hv4 ht4 hu4 hx04 hx14 hx34 hx4 hc4 p1 p2 p3 hfz1 hfz2
      go_wp2_with fail
      exact bodyPost_ret (v := .tuple #[.agg #[.int .i64 (kos (byt s j)), .slice (some ⟨w4.heap.size, 0, none⟩) 2 2], .bool true]) (by simp [results, Try.results109, go_sem, q0, q1]) rfl (.inr ⟨_, _, _, _, _, _, _, HR.out, rfl, HF.out.1.1, HF.out.1.2, HF.out.2.1, HF.out.2.2⟩)
    · have hq : ((byt s l : Int) != 41) = true := by simp; omega
      have hq2 : ((byt s l : Int) == 41) = false := by simp; omega
      have HR := hid (show oprW s (prs s d) i = none by rw [HR2.out, if_neg hs2])
      clear hs2
      go_wp2_with fail
      refine (next_any b s l _ HC3.out).mono ?_
      rintro e w4 ⟨rfl, hc4, hx4⟩
      have hxx := HX1.out.trans ((Cx.of_below HA.out).trans (HX2.out.trans (HX3.out.trans ((Cx.of_below HA3.out).trans hx4))))
      obtain ⟨r0, r1, rz, hM⟩ := res_box hxx hb
      have HF := hid (rd_none hxx hb hc4 (.int .i64 0) (.slice none 0 0))
      clear hc4 hx4 hxx
      go_wp2_with fail
      exact bodyPost_ret (v := .tuple #[.agg #[.int .i64 0, .slice none 0 0], .bool false]) (by simp [results, Try.results109, go_sem, r0, r1]) rfl (.inl ⟨HR.out, rfl, HF.out.1, HF.out.2⟩)
  · have hk0 : kidsOf (kos (byt s j)) ≠ 2 := fun h => hs ((kos_two (byt s j)).1 h)
    have hk1 : (kidsOf (kos (byt s j)) != 2) = true := by simpa using hk0
    have hk2 : (kidsOf (kos (byt s j)) == 2) = false := by simpa using hk0
    have HR := hid (show oprW s (prs s d) i = none by simp only [oprW, hr, if_neg hs])
    clear hs hr hk0
    go_wp2_with fail
    refine (next_any b s j _ HC1.out).mono ?_
    rintro e w2 ⟨rfl, hc2, hx2⟩
    have hxx := HX1.out.trans ((Cx.of_below HA.out).trans hx2)
    obtain ⟨r0, r1, rz, hM⟩ := res_box hxx hb
    have HF := hid (rd_none hxx hb hc2 (.int .i64 0) (.slice none 0 0))
    clear hc2 hx2 hxx
    go_wp2_with fail
    refine (kindOfSign_any _ HB.out _).mono ?_
    rintro e w2' ⟨rfl, rfl⟩
    go_wp2_with fail
    refine (typeOperands_any _ _).mono ?_
    rintro e w2' ⟨rfl, rfl⟩
    go_wp2_with fail
    exact bodyPost_ret (v := .tuple #[.agg #[.int .i64 0, .slice none 0 0], .bool false]) (by simp [results, Try.results109, go_sem, r0, r1]) rfl (.inl ⟨HR.out, rfl, HF.out.1, HF.out.2⟩)

theorem readType_any : ∀ d : Nat, RtC d
  | 0 => readType_zero
  | d + 1 => readType_succ d (readOperands_of d (readType_any d))

/-- A tree in new memory and a bool. -/
def MadeV (w : World) (t : Ty) (ok : Bool) (e : Ending) (w' : World) : Prop := ∃ k n a c fp, e = .returned (.tuple #[.agg #[.int .i64 k, .slice a n c], .bool ok]) ∧ t.At w' (.agg #[.int .i64 k, .slice a n c]) fp ∧ Fresh w.heap.size w' fp ∧ Below w.heap.size w w'

def prsOk (s : ByteArray) : Bool := match prs s 4 0 with | none => false | some (_, j) => decide (j = s.size)
def prsT (s : ByteArray) : Ty := match prs s 4 0 with | none => .mk 0 [] | some (t, j) => if j = s.size then t else .mk 0 []

theorem madeV_zero {w w' : World} (h : Below w.heap.size w w') : MadeV w (.mk 0 []) false (.returned (.tuple #[.agg #[.int .i64 0, .slice none 0 0], .bool false])) w' :=
  ⟨0, 0, none, 0, [], rfl, Ty.at_mk.2 ⟨_, rfl, .inl ⟨rfl, rfl, none, 0, rfl⟩⟩, Fresh.nil _ _, h⟩

theorem prs_none {s : ByteArray} (h : prs s 4 0 = none) : prsT s = .mk 0 [] ∧ prsOk s = false := by simp [prsT, prsOk, h]
theorem prs_short {s : ByteArray} {t : Ty} {j : Nat} (h : prs s 4 0 = some (t, j)) (hj : j ≠ s.size) : prsT s = .mk 0 [] ∧ prsOk s = false := by simp [prsT, prsOk, h, hj]
theorem prs_whole {s : ByteArray} {t : Ty} {j : Nat} (h : prs s 4 0 = some (t, j)) (hj : j = s.size) : prsT s = t ∧ prsOk s = true := by simp [prsT, prsOk, h, hj]

theorem prsT_cnt (s : ByteArray) : (prsT s).cnt ≤ 1048576 := by
  unfold prsT
  split
  · simp [Ty.cnt, cntL]
  · rename_i t j h
    split
    · have := shp_cnt (prs_shp h)
      omega
    · simp [Ty.cnt, cntL]

/-- The result's block, the cursor's above it. -/
theorem two_boxes (s : ByteArray) (w : World) : CurAt (w.heap.size + 1) s 0 ((w.alloc (Obj.cells #[.int .i64 0, .slice none 0 0] 25)).alloc (Obj.cells #[.string s, .int .i64 0] 70)) ↔ s.size ≤ 1048576 := by
  have h : ((w.alloc (Obj.cells #[.int .i64 0, .slice none 0 0] 25)).alloc (Obj.cells #[.string s, .int .i64 0] 70)).heap[w.heap.size + 1]? = some (Obj.cells #[.string s, .int .i64 0] 70) := by
    have hs : (w.alloc (Obj.cells #[.int .i64 0, .slice none 0 0] 25)).heap.size = w.heap.size + 1 := by simp
    rw [← hs]
    exact alloc_new _ _
  exact ⟨fun h => h.2.2, fun hs => ⟨h, Nat.zero_le _, hs⟩⟩

theorem two_res {s : ByteArray} {w wr : World} (h : Cx (w.heap.size + 1) ((w.alloc (Obj.cells #[.int .i64 0, .slice none 0 0] 25)).alloc (Obj.cells #[.string s, .int .i64 0] 70)) wr) : wr.heap[w.heap.size]? = some (Obj.cells #[.int .i64 0, .slice none 0 0] 25) ∧ Below w.heap.size w wr :=
  ⟨h.blk ((Below.heap_alloc _ _ _ (by simp)).trans (alloc_new w _)) (by omega), (((Below.refl _ _).alloc (Nat.le_refl _) _).alloc (by simp) _).trans (h.below (by simp; omega) (by omega))⟩

set_option maxHeartbeats 1000000 in
set_option maxRecDepth 100000 in
theorem implParseType (s : ByteArray) (w : World) (hs : s.size ≤ 1048576) : Calls Try.prog 39 #[.string s] w (MadeV w (prsT s) (prsOk s)) := by
  have H := hid ((two_boxes s w).2 hs)
  go_enter Try.func39, Try.ntmps39
  go_wp2_with fail
  refine (readType_any 4 4 (w.heap.size + 1) s 0 _ (by omega) rfl H.out).mono ?_
  rintro e w1 (⟨hr, rfl, ⟨j, hc1⟩, hx1⟩ | ⟨t, j, k, m, a, c, fp, hr, rfl, hat, hf, hc1, hx1⟩)
  · obtain ⟨hM, hbl⟩ := two_res hx1
    obtain ⟨p1, p2, p3⟩ := fin_b (y := w1) (R := w.heap.size) hM (.int .i64 0) (.slice none 0 0) (Obj.cells #[.int .i64 0, .slice none 0 0] 25)
    have q0 := cell_of_block (o := 0) p2
    have q1 := cell_of_block (o := 1) p2
    have z0 := cell_of_block (o := 0) hM
    have z1 := cell_of_block (o := 1) hM
    have zf := fun o => frozen_of_block (o := o) hM
    have zl := lt_of_block hM
    simp at q0 q1 z0 z1
    have HF := hid (madeV_zero (((hbl.setCell (p := ⟨w.heap.size, 0, none⟩) (Nat.le_refl _) (.int .i64 0)).setCell (p := ⟨w.heap.size, 1, none⟩) (Nat.le_refl _) (.slice none 0 0)).alloc (by simp; omega) (Obj.cells #[.int .i64 0, .slice none 0 0] 25)))
    have HR := hid (prs_none hr)
    clear hr hc1 hx1 hbl p1 p2 p3 hM
    go_wp2_with fail
    refine bodyPost_ret (v := .tuple #[.agg #[.int .i64 0, .slice none 0 0], .bool false]) (by simp [results, Try.results39, go_sem, q0, q1]) rfl ?_
    rw [HR.out.1, HR.out.2]
    exact HF.out
  · have hal : Below w1.heap.size w1 (w1.alloc (Obj.cells #[.int .i64 k, .slice a m c] 25)) := (Below.refl _ _).alloc (Nat.le_refl _) _
    obtain ⟨hM, hbl⟩ := two_res hx1
    have HA := hid hal
    have HM := hid hM
    have HBL := hid hbl
    have HC := hid (hc1.below hal)
    have HAT := hid (hat.below hal)
    have HFR := hid (hf.below hal)
    have hsz : w.heap.size + 1 < w1.heap.size := hc1.lt
    clear hc1 hx1 hbl hM hal hat hf
    by_cases hj : j = s.size
    · have hq : ((j : Int) == (s.size : Int)) = true := by simp [hj]
      have HQ := hid hq
      have HR := hid (prs_whole hr hj)
      clear hq hj hr
      go_wp2_with fail
      refine (atEnd_any _ s j _ HC.out).mono ?_
      rintro e w2 ⟨he, hb2⟩
      rw [HQ.out] at he
      subst he
      obtain ⟨y0, y1⟩ := box_cells hb2
      have hbb := HA.out.trans (hb2.mono HA.out.size)
      have hM2 := (hbb.block _ (lt_of_block HM.out)).trans HM.out
      have z0 := cell_of_block (o := 0) hM2
      have z1 := cell_of_block (o := 1) hM2
      have zf := fun o => frozen_of_block (o := o) hM2
      have zl := lt_of_block hM2
      simp at z0 z1
      have hne : ∀ x ∈ fp, x ≠ w.heap.size := fun x hx e => by have h1 := (HFR.out.2 x hx).1; simp at h1; omega
      have HT := hid (((HAT.out.below hb2).setCell (a := ⟨w.heap.size, 0, none⟩) hne (.int .i64 k)).setCell (a := ⟨w.heap.size, 1, none⟩) hne (.slice a m c))
      have HF := hid (((HFR.out.below hb2).setCell (a := ⟨w.heap.size, 0, none⟩) hne (.int .i64 k)).setCell (a := ⟨w.heap.size, 1, none⟩) hne (.slice a m c))
      have HB := hid (((HBL.out.trans (hbb.mono HBL.out.size)).setCell (p := ⟨w.heap.size, 0, none⟩) (Nat.le_refl _) (.int .i64 k)).setCell (p := ⟨w.heap.size, 1, none⟩) (Nat.le_refl _) (.slice a m c))
      clear hb2 hbb hM2 hne
      go_wp2_with fail
      refine bodyPost_ret (v := .tuple #[.agg #[.int .i64 k, .slice a m c], .bool true]) (by simp [results, Try.results39, go_sem, z0, z1]) rfl ?_
      rw [HR.out.1, HR.out.2]
      exact ⟨k, m, a, c, fp, rfl, HT.out, HF.out.mono (by simp; omega), HB.out⟩
    · have hq : ((j : Int) == (s.size : Int)) = false := by simp; omega
      have HQ := hid hq
      have HR := hid (prs_short hr hj)
      clear hq hj hr
      go_wp2_with fail
      refine (atEnd_any _ s j _ HC.out).mono ?_
      rintro e w2 ⟨he, hb2⟩
      rw [HQ.out] at he
      subst he
      have hbb := HA.out.trans (hb2.mono HA.out.size)
      have hM2 := (hbb.block _ (lt_of_block HM.out)).trans HM.out
      have z0 := cell_of_block (o := 0) hM2
      have z1 := cell_of_block (o := 1) hM2
      have zf := fun o => frozen_of_block (o := o) hM2
      have zl := lt_of_block hM2
      simp at z0 z1
      have HF := hid (madeV_zero ((((HBL.out.trans (hbb.mono HBL.out.size)).setCell (p := ⟨w.heap.size, 0, none⟩) (Nat.le_refl _) (.int .i64 0)).setCell (p := ⟨w.heap.size, 1, none⟩) (Nat.le_refl _) (.slice none 0 0))))
      clear hb2 hbb hM2
      go_wp2_with fail
      refine bodyPost_ret (v := .tuple #[.agg #[.int .i64 0, .slice none 0 0], .bool false]) (by simp [results, Try.results39, go_sem, z0, z1]) rfl ?_
      rw [HR.out.1, HR.out.2]
      exact HF.out

/-- What the specification's reading says. -/
def Ps (r : Option (Ty × Nat)) (w : World) (e : Ending) (w' : World) : Prop :=
  (r = none ∧ e = .returned (.tuple #[.agg #[.int .i64 0, .slice none 0 0], .int .i64 (-1)]) ∧ Below w.heap.size w w') ∨
  ∃ t j k n a c fp, r = some (t, j) ∧ e = .returned (.tuple #[.agg #[.int .i64 k, .slice a n c], .int .i64 ((j : Nat) : Int)]) ∧ t.At w' (.agg #[.int .i64 k, .slice a n c]) fp ∧ Fresh w.heap.size w' fp ∧ Below w.heap.size w w'

def PsC (d : Nat) : Prop := ∀ (n : Int) (s : ByteArray) (p : Int) (i : Nat) (w : World), p = (i : Int) → n ≤ 100 → n.toNat = d → i ≤ s.size → s.size ≤ 1048576 →
  Calls Try.prog 90 #[.string s, .int .i64 p, .int .i64 n] w (Ps (prs s d i) w)

set_option maxHeartbeats 400000 in
theorem l1Parse_zero : PsC 0 := by
  intro n s p i w hp hn0 hn hi hs
  subst hp
  have hn2 : decide (n < 1) = true := by simp; omega
  have hn1 : n < 1 := by omega
  have HF := hid (show Below w.heap.size w (w.alloc (Obj.cells #[.int .i64 0, .slice none 0 0] 25)) from (Below.refl _ _).alloc (Nat.le_refl _) _)
  have HR := hid (show prs s 0 i = none by simp only [prs])
  clear hn
  go_enter Try.func90, Try.ntmps90
  go_wp2_with fail
  exact bodyPost_ret (v := .tuple #[.agg #[.int .i64 0, .slice none 0 0], .int .i64 (-1)]) (by simp [results, Try.results90, go_sem]) rfl (.inl ⟨HR.out, rfl, HF.out⟩)

/-- A byte that is at hand. -/
theorem byt_at {s : ByteArray} {i : Nat} (h : i < s.size) : byt s i = (s[i]'h).toNat := by simp [byt, h]

/-- The result's cells behind a call that only made memory, one block laid beside it. -/
theorem ps_none {w wr : World} (h : Below (w.alloc (Obj.cells #[.int .i64 0, .slice none 0 0] 25)).heap.size (w.alloc (Obj.cells #[.int .i64 0, .slice none 0 0] 25)) wr) (x y : Value) (Q : Obj) :
    Below w.heap.size w (((wr.setCell ⟨w.heap.size, 0, none⟩ x).setCell ⟨w.heap.size, 1, none⟩ y).alloc Q) ∧ (((wr.setCell ⟨w.heap.size, 0, none⟩ x).setCell ⟨w.heap.size, 1, none⟩ y).alloc Q).cell? ⟨w.heap.size, 0, none⟩ = some x ∧ (((wr.setCell ⟨w.heap.size, 0, none⟩ x).setCell ⟨w.heap.size, 1, none⟩ y).alloc Q).cell? ⟨w.heap.size, 1, none⟩ = some y ∧
    wr.cell? ⟨w.heap.size, 0, none⟩ = some (.int .i64 0) ∧ wr.cell? ⟨w.heap.size, 1, none⟩ = some (.slice none 0 0) ∧ (∀ o, wr.frozen? ⟨w.heap.size, o, none⟩ = false) ∧ w.heap.size < wr.heap.size := by
  have hM := (h.block w.heap.size (by simp)).trans (alloc_new w _)
  have h3 := (fin_b hM x y Q).2.1
  have h1 := alloc1 h
  exact ⟨((h1.setCell (Nat.le_refl _) _).setCell (Nat.le_refl _) _).alloc (by simp; exact h1.size) _, by rw [cell_of_block h3]; rfl, by rw [cell_of_block h3]; rfl, by rw [cell_of_block hM]; rfl, by rw [cell_of_block hM]; rfl, fun o => frozen_of_block hM, lt_of_block hM⟩

theorem fin_c {y : World} {R : Nat} {z0 z1 : Value} {T : TypeId} (h : y.heap[R]? = some (.cells #[z0, z1] T (0, 0))) (a b : Value) (P Q : Obj) :
    ((((y.setCell ⟨R, 0, none⟩ a).setCell ⟨R, 1, none⟩ b).alloc P).alloc Q).heap[y.heap.size + 1]? = some Q ∧ ((((y.setCell ⟨R, 0, none⟩ a).setCell ⟨R, 1, none⟩ b).alloc P).alloc Q).heap[R]? = some (.cells #[a, b] T (0, 0)) ∧
    ∀ i, i < y.heap.size → i ≠ R → ((((y.setCell ⟨R, 0, none⟩ a).setCell ⟨R, 1, none⟩ b).alloc P).alloc Q).heap[i]? = y.heap[i]? := by
  obtain ⟨h1, h2, h3⟩ := fin_b h a b P
  have hs : (((y.setCell ⟨R, 0, none⟩ a).setCell ⟨R, 1, none⟩ b).alloc P).heap.size = y.heap.size + 1 := by simp
  have hR := lt_of_block h
  refine ⟨?_, ?_, fun i hi hn => ?_⟩
  · rw [← hs]
    exact alloc_new _ _
  · rw [Below.heap_alloc _ _ _ (by rw [hs]; omega)]
    exact h2
  · rw [Below.heap_alloc _ _ _ (by rw [hs]; omega)]
    exact h3 i hi hn

set_option maxHeartbeats 4000000 in
set_option maxRecDepth 100000 in
theorem l1Parse_succ (d : Nat) (ih : PsC d) : PsC (d + 1) := by
  intro n s p i w hp hn0 hn hi hs
  subst hp
  have HIH := hid ih
  clear ih
  have hn1 : 1 ≤ n := by omega
  have hn2 : decide (n < 1) = false := by simp; omega
  have HN := hid hn
  have HB := hid (show Below w.heap.size w (w.alloc (Obj.cells #[.int .i64 0, .slice none 0 0] 25)) from (Below.refl _ _).alloc (Nat.le_refl _) _)
  clear hn
  by_cases hlt : i < s.size
  case neg =>
    have HR := hid (show prs s (d + 1) i = none by simp [prs, byt, hlt])
    have HF := hid HB.out
    have hi2 : s.size ≤ i := by omega
    go_enter Try.func90, Try.ntmps90
    go_wp2_with fail
    exact bodyPost_ret (v := .tuple #[.agg #[.int .i64 0, .slice none 0 0], .int .i64 (-1)]) (by simp [results, Try.results90, go_sem]) rfl (.inl ⟨HR.out, rfl, HF.out⟩)
  have hbt := byt_at hlt
  generalize hcc : (s[i]'hlt).toNat = cc at *
  have HCC := hid hcc
  have HBT := hid hbt
  by_cases h63 : cc = 63
  · have HR := hid (show prs s (d + 1) i = some (.mk 1 [], i + 1) by simp [prs, hbt, h63, kos])
    subst h63
    have HF := hid (HB.out)
    clear hbt
    have HC := hid hcc
    have e1 : ((s[i]'hlt).toNat : Int) = 63 := by rw [hcc]; rfl
    clear hcc
    go_enter Try.func90, Try.ntmps90
    go_wp2_with fail
    exact bodyPost_ret (v := .tuple #[.agg #[.int .i64 1, .slice none 0 0], .int .i64 ((i + 1 : Nat) : Int)]) (by simp [results, Try.results90, go_sem]) rfl (.inr ⟨_, _, _, _, _, _, [], HR.out, rfl, Ty.at_mk.2 ⟨_, rfl, .inl ⟨rfl, rfl, none, 0, rfl⟩⟩, Fresh.nil _ _, (Below.refl _ _).alloc (Nat.le_refl _) _⟩)
  by_cases h73 : cc = 73
  · have HR := hid (show prs s (d + 1) i = some (.mk 2 [], i + 1) by simp [prs, hbt, h73, kos])
    subst h73
    have HF := hid (HB.out)
    clear hbt
    have HC := hid hcc
    have e1 : ((s[i]'hlt).toNat : Int) = 73 := by rw [hcc]; rfl
    clear hcc
    go_enter Try.func90, Try.ntmps90
    go_wp2_with fail
    exact bodyPost_ret (v := .tuple #[.agg #[.int .i64 2, .slice none 0 0], .int .i64 ((i + 1 : Nat) : Int)]) (by simp [results, Try.results90, go_sem]) rfl (.inr ⟨_, _, _, _, _, _, [], HR.out, rfl, Ty.at_mk.2 ⟨_, rfl, .inl ⟨rfl, rfl, none, 0, rfl⟩⟩, Fresh.nil _ _, (Below.refl _ _).alloc (Nat.le_refl _) _⟩)
  by_cases h66 : cc = 66
  · have HR := hid (show prs s (d + 1) i = some (.mk 3 [], i + 1) by simp [prs, hbt, h66, kos])
    subst h66
    have HF := hid (HB.out)
    clear hbt
    have HC := hid hcc
    have e1 : ((s[i]'hlt).toNat : Int) = 66 := by rw [hcc]; rfl
    clear hcc
    go_enter Try.func90, Try.ntmps90
    go_wp2_with fail
    exact bodyPost_ret (v := .tuple #[.agg #[.int .i64 3, .slice none 0 0], .int .i64 ((i + 1 : Nat) : Int)]) (by simp [results, Try.results90, go_sem]) rfl (.inr ⟨_, _, _, _, _, _, [], HR.out, rfl, Ty.at_mk.2 ⟨_, rfl, .inl ⟨rfl, rfl, none, 0, rfl⟩⟩, Fresh.nil _ _, (Below.refl _ _).alloc (Nat.le_refl _) _⟩)
  by_cases h40 : cc = 40
  case neg =>
    have HR := hid (show prs s (d + 1) i = none by simp [prs, hbt, h40, h63, h73, h66])
    have HF := hid HB.out
    have e63 : (((s[i]'hlt).toNat : Int) == 63) = false := by rw [hcc]; simp; omega
    have e73 : (((s[i]'hlt).toNat : Int) == 73) = false := by rw [hcc]; simp; omega
    have e66 : (((s[i]'hlt).toNat : Int) == 66) = false := by rw [hcc]; simp; omega
    have e40 : (((s[i]'hlt).toNat : Int) == 40) = false := by rw [hcc]; simp; omega
    clear hcc hbt
    go_enter Try.func90, Try.ntmps90
    go_wp2_with fail
    exact bodyPost_ret (v := .tuple #[.agg #[.int .i64 0, .slice none 0 0], .int .i64 (-1)]) (by simp [results, Try.results90, go_sem]) rfl (.inl ⟨HR.out, rfl, HF.out⟩)
  subst h40
  have HP := hid (show prs s (d + 1) i = oprW s (prs s d) (i + 1) by simp [prs, hbt])
  have e1 : ((s[i]'hlt).toNat : Int) = 40 := by rw [hcc]; rfl
  clear hcc hbt h63 h73 h66
  go_enter Try.func90, Try.ntmps90
  go_wp2_with fail
  refine (HIH.out (n - 1) s _ (i + 1) _ (by omega) (by omega) (by have := HN.out; omega) (by omega) hs).mono ?_
  rintro e w1 (⟨hr, rfl, hb1⟩ | ⟨t, j, k, m, a, c, fp, hr, rfl, hat, hf, hb1⟩)
  · obtain ⟨g1, q0, q1, r0, r1, rz, hM⟩ := ps_none hb1 (.int .i64 0) (.slice none 0 0) (Obj.cells #[.int .i64 0, .slice none 0 0] 25)
    have HF := hid g1
    have HR := hid (show prs s (d + 1) i = none by rw [HP.out]; simp only [oprW, hr])
    clear hr hb1 g1
    go_wp2_with fail
    exact bodyPost_ret (v := .tuple #[.agg #[.int .i64 0, .slice none 0 0], .int .i64 (-1)]) (by simp [results, Try.results90, go_sem, q0, q1]) rfl (.inl ⟨HR.out, rfl, HF.out⟩)
  have hjs := prs_le hr
  have HB1 := hid hb1
  have hal : Below w1.heap.size w1 (w1.alloc (Obj.cells #[.int .i64 k, .slice a m c] 25)) := (Below.refl _ _).alloc (Nat.le_refl _) _
  have HA := hid hal
  have HAT := hid hat
  have HFR := hid hf
  obtain ⟨-, -, -, r0, r1, rz, hM⟩ := ps_none hb1 (.int .i64 0) (.slice none 0 0) (Obj.cells #[.int .i64 0, .slice none 0 0] 25)
  clear hb1 hat hf hal
  by_cases hj : j < s.size
  case neg =>
    have hj2 : s.size ≤ j := by omega
    have hb9 := byt_lt s j
    have HR := hid (show prs s (d + 1) i = none by rw [HP.out]; simp [oprW, hr, byt, hj])
    obtain ⟨g1, q0, q1, -⟩ := ps_none HB1.out (.int .i64 0) (.slice none 0 0) (Obj.cells #[.int .i64 k, .slice a m c] 25)
    have HF := hid g1
    clear hr g1 hb9
    go_wp2_with fail
    exact bodyPost_ret (v := .tuple #[.agg #[.int .i64 0, .slice none 0 0], .int .i64 (-1)]) (by simp [results, Try.results90, go_sem, q0, q1]) rfl (.inl ⟨HR.out, rfl, HF.out⟩)
  have hbt := byt_at hj
  generalize hcc : (s[j]'hj).toNat = cc at *
  have HC := hid hcc
  have HO := hid (show prs s (d + 1) i = (if cc = 62 ∨ cc = 42 then (match prs s d (j + 1) with | none => none | some (b, l) => if byt s l = 41 then some (.mk (kos cc) [t, b], l + 1) else none) else none) by rw [HP.out]; simp only [oprW, hr, hbt] <;> rfl)
  clear hr hbt
  by_cases h62 : cc = 62
  · have HK := hid (show kos cc = 4 by rw [h62]; rfl)
    have e62 : ((s[j]'hj).toNat : Int) = 62 := by rw [hcc, h62]; rfl
    have HM := hid (show prs s (d + 1) i = (match prs s d (j + 1) with | none => none | some (b, l) => if byt s l = 41 then some (.mk 4 [t, b], l + 1) else none) by rw [HO.out, if_pos (by omega), HK.out])
    clear hcc h62
    go_wp2_with fail
    refine (HIH.out (n - 1) s _ (j + 1) _ (by omega) (by omega) (by have := HN.out; omega) (by omega) hs).mono ?_
    rintro e w2 (⟨hr, rfl, hb2⟩ | ⟨u, l, k2, m2, a2, c2, fp2, hr, rfl, hat2, hf2, hb2⟩)
    · have hbb := HB1.out.trans ((HA.out.trans (hb2.mono HA.out.size)).mono HB1.out.size)
      obtain ⟨g1, q0, q1, r0, r1, rz, hM⟩ := ps_none hbb (.int .i64 0) (.slice none 0 0) (Obj.cells #[.int .i64 0, .slice none 0 0] 25)
      have HF := hid g1
      have HR := hid (show prs s (d + 1) i = none by rw [HM.out, hr])
      clear hr hb2 g1 hbb
      go_wp2_with fail
      exact bodyPost_ret (v := .tuple #[.agg #[.int .i64 0, .slice none 0 0], .int .i64 (-1)]) (by simp [results, Try.results90, go_sem, q0, q1]) rfl (.inl ⟨HR.out, rfl, HF.out⟩)
    have hls := prs_le hr
    have hbb := HB1.out.trans ((HA.out.trans (hb2.mono HA.out.size)).mono HB1.out.size)
    have HBB := hid hbb
    obtain ⟨y0, y1⟩ := box_cells hb2
    have HB2 := hid hb2
    have HAT2 := hid hat2
    have HFR2 := hid hf2
    have HR2 := hid (show prs s (d + 1) i = (if byt s l = 41 then some (.mk 4 [t, u], l + 1) else none) by rw [HM.out, hr])
    clear r0 r1 rz hM
    obtain ⟨-, -, -, r0, r1, rz, hM⟩ := ps_none hbb (.int .i64 0) (.slice none 0 0) (Obj.cells #[.int .i64 0, .slice none 0 0] 25)
    have hsz : w1.heap.size < w2.heap.size := World.block_lt_of_cell? _ _ y0
    clear hr hb2 hat2 hf2 hbb
    by_cases hl : l < s.size
    case neg =>
      have hl2 : s.size ≤ l := by omega
      have HR := hid (show prs s (d + 1) i = none by rw [HR2.out]; simp [byt, hl])
      obtain ⟨g1, q0, q1, -⟩ := ps_none HBB.out (.int .i64 0) (.slice none 0 0) (Obj.cells #[.int .i64 k2, .slice a2 m2 c2] 25)
      have HF := hid g1
      clear g1
      go_wp2_with fail
      exact bodyPost_ret (v := .tuple #[.agg #[.int .i64 0, .slice none 0 0], .int .i64 (-1)]) (by simp [results, Try.results90, go_sem, q0, q1]) rfl (.inl ⟨HR.out, rfl, HF.out⟩)
    have hbl := byt_at hl
    generalize hc5 : (s[l]'hl).toNat = c5 at *
    by_cases h41 : c5 = 41
    · have e41 : ((s[l]'hl).toNat : Int) = 41 := by rw [hc5, h41]; rfl
      have HR := hid (show prs s (d + 1) i = some (.mk 4 [t, u], l + 1) by rw [HR2.out, hbl, if_pos h41])
      have hblk := (HBB.out.block w.heap.size (by simp)).trans (alloc_new w _)
      obtain ⟨p1, p2, p3⟩ := fin_c hblk (.int .i64 4) (.slice (some ⟨w2.heap.size + 1, 0, none⟩) 2 2) (Obj.cells #[.int .i64 k2, .slice a2 m2 c2] 25) (Obj.cells #[.int .i64 k, .slice a m c, .int .i64 k2, .slice a2 m2 c2] 25)
      have q0 := cell_of_block (o := 0) p2
      have q1 := cell_of_block (o := 1) p2
      simp at q0 q1
      have hs1 : w.heap.size + 1 ≤ w1.heap.size := by have := HB1.out.size; simp at this; omega
      have ht2 := (HAT.out.below HA.out).below HB2.out
      have hg2 : Fresh w.heap.size w2 fp := ((HFR.out.below HA.out).below HB2.out).mono (by simp)
      have hv2 : Fresh (w1.heap.size + 1) w2 fp2 := HFR2.out.mono (by simp)
      have hfin := two_in (k := 4) ht2 HAT2.out hg2 hv2 (fun x hx => by have := (HFR.out.2 x hx).2.1; omega) (by omega) (by omega) (Nat.le_succ _) p1 p3 (fun x hx e => by have := (HFR.out.2 x hx).1; simp at this; omega) (fun x hx e => by have := (HFR2.out.2 x hx).1; simp at this; omega)
      have hbz : Below w.heap.size w ((((w2.setCell ⟨w.heap.size, 0, none⟩ (.int .i64 4)).setCell ⟨w.heap.size, 1, none⟩ (.slice (some ⟨w2.heap.size + 1, 0, none⟩) 2 2)).alloc (Obj.cells #[.int .i64 k2, .slice a2 m2 c2] 25)).alloc (Obj.cells #[.int .i64 k, .slice a m c, .int .i64 k2, .slice a2 m2 c2] 25)) :=
        ((((alloc1 HBB.out).setCell (p := ⟨w.heap.size, 0, none⟩) (Nat.le_refl _) _).setCell (p := ⟨w.heap.size, 1, none⟩) (Nat.le_refl _) _).alloc (by simp; omega) _).alloc (by simp; omega) _
      have HF := hid (And.intro hfin hbz)
      clear hfin hbz hc5 h41 hbl ht2 hg2 hv2 p1 p2 p3 hblk
      go_wp2_with fail
      exact bodyPost_ret (v := .tuple #[.agg #[.int .i64 4, .slice (some ⟨w2.heap.size + 1, 0, none⟩) 2 2], .int .i64 ((l + 1 : Nat) : Int)]) (by simp [results, Try.results90, go_sem, q0, q1]) rfl (.inr ⟨_, _, _, _, _, _, _, HR.out, rfl, HF.out.1.1, HF.out.1.2, HF.out.2⟩)
    · have e41 : (((s[l]'hl).toNat : Int) == 41) = false := by rw [hc5]; simp; omega
      have e41n : (((s[l]'hl).toNat : Int) != 41) = true := by rw [hc5]; simp; omega
      have HR := hid (show prs s (d + 1) i = none by rw [HR2.out, hbl, if_neg h41])
      obtain ⟨g1, q0, q1, -⟩ := ps_none HBB.out (.int .i64 0) (.slice none 0 0) (Obj.cells #[.int .i64 k2, .slice a2 m2 c2] 25)
      have HF := hid g1
      clear g1 hc5 hbl h41
      go_wp2_with fail
      exact bodyPost_ret (v := .tuple #[.agg #[.int .i64 0, .slice none 0 0], .int .i64 (-1)]) (by simp [results, Try.results90, go_sem, q0, q1]) rfl (.inl ⟨HR.out, rfl, HF.out⟩)
  by_cases h42 : cc = 42
  · have HK := hid (show kos cc = 5 by rw [h42]; rfl)
    have e62 : ((s[j]'hj).toNat : Int) = 42 := by rw [hcc, h42]; rfl
    have HM := hid (show prs s (d + 1) i = (match prs s d (j + 1) with | none => none | some (b, l) => if byt s l = 41 then some (.mk 5 [t, b], l + 1) else none) by rw [HO.out, if_pos (by omega), HK.out])
    clear hcc h42
    go_wp2_with fail
    refine (HIH.out (n - 1) s _ (j + 1) _ (by omega) (by omega) (by have := HN.out; omega) (by omega) hs).mono ?_
    rintro e w2 (⟨hr, rfl, hb2⟩ | ⟨u, l, k2, m2, a2, c2, fp2, hr, rfl, hat2, hf2, hb2⟩)
    · have hbb := HB1.out.trans ((HA.out.trans (hb2.mono HA.out.size)).mono HB1.out.size)
      obtain ⟨g1, q0, q1, r0, r1, rz, hM⟩ := ps_none hbb (.int .i64 0) (.slice none 0 0) (Obj.cells #[.int .i64 0, .slice none 0 0] 25)
      have HF := hid g1
      have HR := hid (show prs s (d + 1) i = none by rw [HM.out, hr])
      clear hr hb2 g1 hbb
      go_wp2_with fail
      exact bodyPost_ret (v := .tuple #[.agg #[.int .i64 0, .slice none 0 0], .int .i64 (-1)]) (by simp [results, Try.results90, go_sem, q0, q1]) rfl (.inl ⟨HR.out, rfl, HF.out⟩)
    have hls := prs_le hr
    have hbb := HB1.out.trans ((HA.out.trans (hb2.mono HA.out.size)).mono HB1.out.size)
    have HBB := hid hbb
    obtain ⟨y0, y1⟩ := box_cells hb2
    have HB2 := hid hb2
    have HAT2 := hid hat2
    have HFR2 := hid hf2
    have HR2 := hid (show prs s (d + 1) i = (if byt s l = 41 then some (.mk 5 [t, u], l + 1) else none) by rw [HM.out, hr])
    clear r0 r1 rz hM
    obtain ⟨-, -, -, r0, r1, rz, hM⟩ := ps_none hbb (.int .i64 0) (.slice none 0 0) (Obj.cells #[.int .i64 0, .slice none 0 0] 25)
    have hsz : w1.heap.size < w2.heap.size := World.block_lt_of_cell? _ _ y0
    clear hr hb2 hat2 hf2 hbb
    by_cases hl : l < s.size
    case neg =>
      have hl2 : s.size ≤ l := by omega
      have HR := hid (show prs s (d + 1) i = none by rw [HR2.out]; simp [byt, hl])
      obtain ⟨g1, q0, q1, -⟩ := ps_none HBB.out (.int .i64 0) (.slice none 0 0) (Obj.cells #[.int .i64 k2, .slice a2 m2 c2] 25)
      have HF := hid g1
      clear g1
      go_wp2_with fail
      exact bodyPost_ret (v := .tuple #[.agg #[.int .i64 0, .slice none 0 0], .int .i64 (-1)]) (by simp [results, Try.results90, go_sem, q0, q1]) rfl (.inl ⟨HR.out, rfl, HF.out⟩)
    have hbl := byt_at hl
    generalize hc5 : (s[l]'hl).toNat = c5 at *
    by_cases h41 : c5 = 41
    · have e41 : ((s[l]'hl).toNat : Int) = 41 := by rw [hc5, h41]; rfl
      have HR := hid (show prs s (d + 1) i = some (.mk 5 [t, u], l + 1) by rw [HR2.out, hbl, if_pos h41])
      have hblk := (HBB.out.block w.heap.size (by simp)).trans (alloc_new w _)
      obtain ⟨p1, p2, p3⟩ := fin_c hblk (.int .i64 5) (.slice (some ⟨w2.heap.size + 1, 0, none⟩) 2 2) (Obj.cells #[.int .i64 k2, .slice a2 m2 c2] 25) (Obj.cells #[.int .i64 k, .slice a m c, .int .i64 k2, .slice a2 m2 c2] 25)
      have q0 := cell_of_block (o := 0) p2
      have q1 := cell_of_block (o := 1) p2
      simp at q0 q1
      have hs1 : w.heap.size + 1 ≤ w1.heap.size := by have := HB1.out.size; simp at this; omega
      have ht2 := (HAT.out.below HA.out).below HB2.out
      have hg2 : Fresh w.heap.size w2 fp := ((HFR.out.below HA.out).below HB2.out).mono (by simp)
      have hv2 : Fresh (w1.heap.size + 1) w2 fp2 := HFR2.out.mono (by simp)
      have hfin := two_in (k := 5) ht2 HAT2.out hg2 hv2 (fun x hx => by have := (HFR.out.2 x hx).2.1; omega) (by omega) (by omega) (Nat.le_succ _) p1 p3 (fun x hx e => by have := (HFR.out.2 x hx).1; simp at this; omega) (fun x hx e => by have := (HFR2.out.2 x hx).1; simp at this; omega)
      have hbz : Below w.heap.size w ((((w2.setCell ⟨w.heap.size, 0, none⟩ (.int .i64 5)).setCell ⟨w.heap.size, 1, none⟩ (.slice (some ⟨w2.heap.size + 1, 0, none⟩) 2 2)).alloc (Obj.cells #[.int .i64 k2, .slice a2 m2 c2] 25)).alloc (Obj.cells #[.int .i64 k, .slice a m c, .int .i64 k2, .slice a2 m2 c2] 25)) :=
        ((((alloc1 HBB.out).setCell (p := ⟨w.heap.size, 0, none⟩) (Nat.le_refl _) _).setCell (p := ⟨w.heap.size, 1, none⟩) (Nat.le_refl _) _).alloc (by simp; omega) _).alloc (by simp; omega) _
      have HF := hid (And.intro hfin hbz)
      clear hfin hbz hc5 h41 hbl ht2 hg2 hv2 p1 p2 p3 hblk
      go_wp2_with fail
      exact bodyPost_ret (v := .tuple #[.agg #[.int .i64 5, .slice (some ⟨w2.heap.size + 1, 0, none⟩) 2 2], .int .i64 ((l + 1 : Nat) : Int)]) (by simp [results, Try.results90, go_sem, q0, q1]) rfl (.inr ⟨_, _, _, _, _, _, _, HR.out, rfl, HF.out.1.1, HF.out.1.2, HF.out.2⟩)
    · have e41 : (((s[l]'hl).toNat : Int) == 41) = false := by rw [hc5]; simp; omega
      have e41n : (((s[l]'hl).toNat : Int) != 41) = true := by rw [hc5]; simp; omega
      have HR := hid (show prs s (d + 1) i = none by rw [HR2.out, hbl, if_neg h41])
      obtain ⟨g1, q0, q1, -⟩ := ps_none HBB.out (.int .i64 0) (.slice none 0 0) (Obj.cells #[.int .i64 k2, .slice a2 m2 c2] 25)
      have HF := hid g1
      clear g1 hc5 hbl h41
      go_wp2_with fail
      exact bodyPost_ret (v := .tuple #[.agg #[.int .i64 0, .slice none 0 0], .int .i64 (-1)]) (by simp [results, Try.results90, go_sem, q0, q1]) rfl (.inl ⟨HR.out, rfl, HF.out⟩)
  · have HR := hid (show prs s (d + 1) i = none by rw [HO.out, if_neg (by omega)])
    have e62 : (((s[j]'hj).toNat : Int) == 62) = false := by rw [hcc]; simp; omega
    have e42 : (((s[j]'hj).toNat : Int) == 42) = false := by rw [hcc]; simp; omega
    have e62n : (((s[j]'hj).toNat : Int) != 62) = true := by rw [hcc]; simp; omega
    have e42n : (((s[j]'hj).toNat : Int) != 42) = true := by rw [hcc]; simp; omega
    clear hcc h62 h42
    go_wp2_with fail
    refine (HIH.out (n - 1) s _ (j + 1) _ (by omega) (by omega) (by have := HN.out; omega) (by omega) hs).mono ?_
    rintro e w2 (⟨hr, rfl, hb2⟩ | ⟨u, l, k2, m2, a2, c2, fp2, hr, rfl, hat2, hf2, hb2⟩)
    · have hbb := HB1.out.trans ((HA.out.trans (hb2.mono HA.out.size)).mono HB1.out.size)
      obtain ⟨g1, q0, q1, r0, r1, rz, hM⟩ := ps_none hbb (.int .i64 0) (.slice none 0 0) (Obj.cells #[.int .i64 0, .slice none 0 0] 25)
      have HF := hid g1
      clear hr hb2 g1 hbb
      go_wp2_with fail
      exact bodyPost_ret (v := .tuple #[.agg #[.int .i64 0, .slice none 0 0], .int .i64 (-1)]) (by simp [results, Try.results90, go_sem, q0, q1]) rfl (.inl ⟨HR.out, rfl, HF.out⟩)
    · have hbb := HB1.out.trans ((HA.out.trans (hb2.mono HA.out.size)).mono HB1.out.size)
      obtain ⟨g1, q0, q1, r0, r1, rz, hM⟩ := ps_none hbb (.int .i64 0) (.slice none 0 0) (Obj.cells #[.int .i64 k2, .slice a2 m2 c2] 25)
      have HF := hid g1
      clear hr hb2 g1 hbb hat2 hf2
      go_wp2_with fail
      exact bodyPost_ret (v := .tuple #[.agg #[.int .i64 0, .slice none 0 0], .int .i64 (-1)]) (by simp [results, Try.results90, go_sem, q0, q1]) rfl (.inl ⟨HR.out, rfl, HF.out⟩)

theorem l1Parse_any : ∀ d : Nat, PsC d
  | 0 => l1Parse_zero
  | d + 1 => l1Parse_succ d (l1Parse_any d)

set_option maxHeartbeats 1000000 in
theorem specParseType (s : ByteArray) (w : World) (hs : s.size ≤ 1048576) : Calls Try.prog 43 #[.string s] w (MadeV w (prsT s) (prsOk s)) := by
  go_enter Try.func43, Try.ntmps43
  go_wp2_with fail
  refine (l1Parse_any 4 4 s 0 0 _ rfl (by omega) rfl (Nat.zero_le _) hs).mono ?_
  rintro e w1 (⟨hr, rfl, hb1⟩ | ⟨t, j, k, m, a, c, fp, hr, rfl, hat, hf, hb1⟩)
  · obtain ⟨g1, q0, q1, r0, r1, rz, hM⟩ := ps_none hb1 (.int .i64 0) (.slice none 0 0) (Obj.cells #[.int .i64 0, .slice none 0 0] 25)
    have HF := hid (madeV_zero g1)
    have HR := hid (prs_none hr)
    have hq : ((-1 : Int) == (s.size : Int)) = false := beq_false_of_ne (by omega)
    have hq2 : ((-1 : Int) != (s.size : Int)) = true := bne_iff_ne.2 (by omega)
    clear hr hb1 g1
    go_wp2_with fail
    refine bodyPost_ret (v := .tuple #[.agg #[.int .i64 0, .slice none 0 0], .bool false]) (by simp [results, Try.results43, go_sem, q0, q1]) rfl ?_
    rw [HR.out.1, HR.out.2]
    exact HF.out
  · by_cases hj : j = s.size
    · have hq : ((j : Int) == (s.size : Int)) = true := by simp [hj]
      have hq2 : ((j : Int) != (s.size : Int)) = false := by simp [hj]
      have HR := hid (prs_whole hr hj)
      obtain ⟨g1, q0, q1, r0, r1, rz, hM⟩ := ps_none hb1 (.int .i64 k) (.slice a m c) (Obj.cells #[.int .i64 k, .slice a m c] 25)
      have hne : ∀ x ∈ fp, x ≠ w.heap.size := fun x hx e => by have h1 := (hf.2 x hx).1; simp at h1; omega
      have hal : ∀ y : World, Below y.heap.size y (y.alloc (Obj.cells #[.int .i64 k, .slice a m c] 25)) := fun y => (Below.refl _ _).alloc (Nat.le_refl _) _
      have HT := hid (((hat.setCell (a := ⟨w.heap.size, 0, none⟩) hne (.int .i64 k)).setCell (a := ⟨w.heap.size, 1, none⟩) hne (.slice a m c)).below (hal _))
      have HF := hid (((hf.setCell (a := ⟨w.heap.size, 0, none⟩) hne (.int .i64 k)).setCell (a := ⟨w.heap.size, 1, none⟩) hne (.slice a m c)).below (hal _))
      have HB := hid g1
      subst hj
      clear hr hb1 hat hf hne g1 hal
      go_wp2_with fail
      refine bodyPost_ret (v := .tuple #[.agg #[.int .i64 k, .slice a m c], .bool true]) (by simp [results, Try.results43, go_sem, q0, q1]) rfl ?_
      rw [HR.out.1, HR.out.2]
      exact ⟨k, m, a, c, fp, rfl, HT.out, HF.out.mono (by simp), HB.out⟩
    · have hq : ((j : Int) == (s.size : Int)) = false := by simp; omega
      have hq2 : ((j : Int) != (s.size : Int)) = true := by simp; omega
      have HR := hid (prs_short hr hj)
      obtain ⟨g1, q0, q1, r0, r1, rz, hM⟩ := ps_none hb1 (.int .i64 0) (.slice none 0 0) (Obj.cells #[.int .i64 k, .slice a m c] 25)
      have HF := hid (madeV_zero g1)
      clear hr hb1 hat hf g1 hj
      go_wp2_with fail
      refine bodyPost_ret (v := .tuple #[.agg #[.int .i64 0, .slice none 0 0], .bool false]) (by simp [results, Try.results43, go_sem, q0, q1]) rfl ?_
      rw [HR.out.1, HR.out.2]
      exact HF.out

end Go.Proofs.Ytelbpgdlcnnabaa

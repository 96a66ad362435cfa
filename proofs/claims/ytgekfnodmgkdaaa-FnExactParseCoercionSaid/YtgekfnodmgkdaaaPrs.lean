/- The reading of a type's text as a plain function; the program's cursor. -/
import Derived.Test.YtgekfnodmgkdaaaTxt
import Derived.Test.YtgekfnodmgkdaaaPkA
import Derived.Deep.RegionHeld3
namespace Go.Proofs.Ytgekfnodmgkdaaa
open Go.RowKit

/-- The byte at a place; nought behind the end. -/
def byt (s : ByteArray) (i : Nat) : Nat := if h : i < s.size then (s[i]'h).toNat else 0

/-- The place behind the byte that is read there. -/
def nxt (s : ByteArray) (i : Nat) : Nat := if i < s.size then i + 1 else i

/-- The kind of a sign; nought of a byte that is none. -/
def kos (c : Nat) : Int := if c = 63 then 1 else if c = 73 then 2 else if c = 66 then 3 else if c = 62 then 4 else if c = 42 then 5 else 0

/-- What follows an opening parenthesis, p reading the operands. -/
def oprW (s : ByteArray) (p : Nat → Option (Ty × Nat)) (i : Nat) : Option (Ty × Nat) :=
  match p i with
  | none => none
  | some (a, j) =>
    if byt s j = 62 ∨ byt s j = 42 then
      match p (j + 1) with
      | none => none
      | some (b, l) => if byt s l = 41 then some (.mk (kos (byt s j)) [a, b], l + 1) else none
    else none

/-- A type's text from a place on, of at most so many levels: the tree and the place behind it. -/
def prs (s : ByteArray) : Nat → Nat → Option (Ty × Nat)
  | 0, _ => none
  | d + 1, i =>
    if byt s i = 40 then oprW s (prs s d) (i + 1)
    else if byt s i = 63 ∨ byt s i = 73 ∨ byt s i = 66 then some (.mk (kos (byt s i)) [], i + 1)
    else none

theorem ret_y {a b : Int} (h : a = b) : Ending.returned (.int .u8 a) = .returned (.int .u8 b) := by rw [h]

theorem byt_lt (s : ByteArray) (i : Nat) : byt s i < 256 := by
  unfold byt
  split
  · exact (s[i]).toNat_lt
  · omega

theorem byt_in {s : ByteArray} {i : Nat} (h : byt s i ≠ 0) : i < s.size := by
  unfold byt at h
  split at h
  · assumption
  · exact absurd rfl h

theorem nxt_in {s : ByteArray} {i : Nat} (h : byt s i ≠ 0) : nxt s i = i + 1 := if_pos (byt_in h)

theorem nxt_le {s : ByteArray} {i : Nat} (h : i ≤ s.size) : nxt s i ≤ s.size := by
  unfold nxt
  split <;> omega

theorem oprW_le {s : ByteArray} {p : Nat → Option (Ty × Nat)} {i j : Nat} {t : Ty} (h : oprW s p i = some (t, j)) : j ≤ s.size := by
  unfold oprW at h
  split at h
  · cases h
  · split at h
    · split at h
      · cases h
      · split at h
        · rename_i hb
          have := byt_in (show byt s _ ≠ 0 by rw [hb]; decide)
          simp only [Option.some.injEq, Prod.mk.injEq] at h
          omega
        · cases h
    · cases h

theorem prs_le {s : ByteArray} {d i j : Nat} {t : Ty} (h : prs s d i = some (t, j)) : j ≤ s.size := by
  cases d with
  | zero => simp [prs] at h
  | succ d =>
    simp only [prs] at h
    split at h
    · exact oprW_le h
    · split at h
      · rename_i hb
        have := byt_in (s := s) (i := i) (by omega)
        simp only [Option.some.injEq, Prod.mk.injEq] at h
        omega
      · cases h

set_option maxRecDepth 100000 in
theorem kos_index : ∀ c : Fin 256, Lib.indexByte [63, 73, 66, 62, 42] c.val.toUInt8 + 1 = kos c.val := by decide

theorem kos_two (c : Nat) : kidsOf (kos c) = 2 ↔ c = 62 ∨ c = 42 := by
  unfold kos
  repeat (split; · simp [kidsOf]; omega)
  simp [kidsOf]
  omega

theorem kos_zero (c : Nat) : kidsOf (kos c) = 0 ↔ c = 63 ∨ c = 73 ∨ c = 66 := by
  unfold kos
  repeat (split; · simp [kidsOf]; omega)
  simp [kidsOf]
  omega

theorem oprW_shp {s : ByteArray} {d : Nat} {p : Nat → Option (Ty × Nat)} {i j : Nat} {t : Ty} (hp : ∀ i j t, p i = some (t, j) → shp d t = true) (h : oprW s p i = some (t, j)) : shp (d + 1) t = true := by
  unfold oprW at h
  split at h
  · cases h
  · rename_i a j1 ha
    split at h
    · rename_i hs
      split at h
      · cases h
      · rename_i b l hb
        split at h
        · simp only [Option.some.injEq, Prod.mk.injEq] at h
          obtain ⟨rfl, _⟩ := h
          simp [shp, (kos_two _).2 hs, hp _ _ _ ha, hp _ _ _ hb]
        · cases h
    · cases h

theorem prs_shp {s : ByteArray} : ∀ {d i j : Nat} {t : Ty}, prs s d i = some (t, j) → shp d t = true
  | 0, i, j, t, h => by simp [prs] at h
  | d + 1, i, j, t, h => by
    simp only [prs] at h
    split at h
    · exact oprW_shp (fun i j t h => prs_shp h) h
    · split at h
      · rename_i hk
        simp only [Option.some.injEq, Prod.mk.injEq] at h
        obtain ⟨rfl, _⟩ := h
        simp [shp, (kos_zero _).2 hk]
      · cases h

theorem shp_cnt : ∀ {d : Nat} {t : Ty}, shp d t = true → t.cnt + 2 ≤ 2 * 2 ^ d
  | 0, t, h => by simp [shp] at h
  | d + 1, .mk k ts, h => by
    rcases shp_cases h with ⟨rfl, _⟩ | ⟨a, b, rfl, _, ha, hb⟩
    · have : 0 < 2 ^ d := Nat.pow_pos (by omega)
      simp only [Ty.cnt, cntL, List.length_nil, Nat.pow_succ]
      omega
    · have h1 := shp_cnt ha
      have h2 := shp_cnt hb
      simp only [Ty.cnt, cntL, List.length_cons, List.length_nil, Nat.pow_succ]
      omega

/-- From w to w' only new blocks and the block U have been written. -/
def Cx (U : Nat) (w w' : World) : Prop := w.grownBy w' (some U)

theorem Cx.refl (U : Nat) (w : World) : Cx U w w := World.grownBy.refl _ _
theorem Cx.of_below {U : Nat} {w w' : World} (h : Below w.heap.size w w') : Cx U w w' := ⟨h.os, h.tape, h.output, h.size, fun k hk _ => h.block k hk⟩
theorem Cx.size {U : Nat} {w w' : World} (h : Cx U w w') : w.heap.size ≤ w'.heap.size := World.grownBy.size h

theorem Cx.trans {U : Nat} {a b c : World} (h : Cx U a b) (k : Cx U b c) : Cx U a c :=
  ⟨k.os.trans h.os, k.tape.trans h.tape, k.output.trans h.output, Nat.le_trans h.size k.size, fun i hi hn => (k.block i (Nat.lt_of_lt_of_le hi h.size) hn).trans (h.block i hi hn)⟩

theorem Cx.alloc {U : Nat} {a b : World} (h : Cx U a b) (o : Obj) : Cx U a (b.alloc o) := h.trans (Cx.of_below ((Below.refl _ _).alloc (Nat.le_refl _) _))

theorem Cx.drew {U : Nat} {a b : World} (h : Cx U a b) : Cx U a b.drew := ⟨h.os, h.tape, h.output, h.size, h.block⟩

theorem Cx.drewN {U : Nat} {a b : World} (h : Cx U a b) (n : Nat) : Cx U a (b.drewN n) := ⟨h.os, h.tape, h.output, h.size, h.block⟩

/-- A store into a block that is new since a. -/
theorem Cx.setNew {U : Nat} {a b : World} (h : Cx U a b) {p : Addr} (hp : a.heap.size ≤ p.block) (u : Value) : Cx U a (b.setCell p u) :=
  ⟨h.os, h.tape, h.output, by rw [size_setCell]; exact h.size, fun i hi hn => (Below.heap_setCell b p u i (by omega)).trans (h.block i hi hn)⟩

theorem Cx.setCell {U : Nat} {a b : World} (h : Cx U a b) (o : Nat) (u : Value) : Cx U a (b.setCell ⟨U, o, none⟩ u) :=
  ⟨h.os, h.tape, h.output, by rw [size_setCell]; exact h.size, fun i hi hn => (Below.heap_setCell b ⟨U, o, none⟩ u i (fun e => hn (by rw [e]))).trans (h.block i hi hn)⟩

theorem Cx.blk {U : Nat} {w w' : World} (h : Cx U w w') {M : Nat} {o : Obj} (hM : w.heap[M]? = some o) (hn : M ≠ U) : w'.heap[M]? = some o :=
  (h.block M (lt_of_block hM) (fun e => hn (Option.some.inj e))).trans hM

theorem Cx.cell {U : Nat} {w w' : World} (h : Cx U w w') {b o : Nat} {u : Value} (hc : w.cell? ⟨b, o, none⟩ = some u) (hn : b ≠ U) : w'.cell? ⟨b, o, none⟩ = some u :=
  (World.cell?_of_block (w := w) (a := ⟨b, o, none⟩) (h.block b (World.block_lt_of_cell? _ _ hc) (fun e => hn (Option.some.inj e)))).trans hc

theorem Cx.frozen {U : Nat} {w w' : World} (h : Cx U w w') {b o : Nat} {c : Bool} (hc : w.frozen? ⟨b, o, none⟩ = c) (hlt : b < w.heap.size) (hn : b ≠ U) : w'.frozen? ⟨b, o, none⟩ = c :=
  (World.frozen?_of_block (w := w) (a := ⟨b, o, none⟩) (h.block b hlt (fun e => hn (Option.some.inj e)))).trans hc

theorem Cx.ty {U : Nat} {w w' : World} (h : Cx U w w') {t : Ty} {x : Value} {fp : List Nat} (ht : t.At w x fp) (hn : ∀ b ∈ fp, b ≠ U) : t.At w' x fp :=
  ht.congr fun b hb o => World.cell?_of_block (w := w) (a := ⟨b, o, none⟩) (h.block b (ht.lt b hb) (fun e => hn b hb (Option.some.inj e)))

theorem Cx.fresh {U B : Nat} {w w' : World} (h : Cx U w w') {f : List Nat} (hf : Fresh B w f) (hU : U < B) : Fresh B w' f :=
  ⟨hf.1, fun b hb => ⟨(hf.2 b hb).1, Nat.lt_of_lt_of_le (hf.2 b hb).2.1 h.size, fun o => h.frozen ((hf.2 b hb).2.2 o) (hf.2 b hb).2.1 (by have := (hf.2 b hb).1; omega)⟩⟩

theorem Cx.below {U B : Nat} {w w' : World} (h : Cx U w w') (hB : B ≤ w.heap.size) (hU : B ≤ U) : Below B w w' :=
  ⟨h.os, h.tape, h.output, h.size, fun k hk => h.block k (by omega) (fun e => by have := Option.some.inj e; omega)⟩

/-- A cursor over a text, at a place. -/
def CurAt (b : Nat) (s : ByteArray) (i : Nat) (w : World) : Prop := w.heap[b]? = some (.cells #[.string s, .int .i64 (i : Int)] 82 (0, 0)) ∧ i ≤ s.size ∧ s.size ≤ 1048576

theorem CurAt.below {b : Nat} {s : ByteArray} {i : Nat} {w w' : World} (h : CurAt b s i w) (hb : Below w.heap.size w w') : CurAt b s i w' := ⟨(hb.block b (lt_of_block h.1)).trans h.1, h.2⟩
theorem CurAt.lt {b : Nat} {s : ByteArray} {i : Nat} {w : World} (h : CurAt b s i w) : b < w.heap.size := lt_of_block h.1

theorem CurAt.cells {b : Nat} {s : ByteArray} {i : Nat} {w : World} (h : CurAt b s i w) : w.cell? ⟨b, 0, none⟩ = some (.string s) ∧ w.cell? ⟨b, 1, none⟩ = some (.int .i64 (i : Int)) ∧ ∀ o, w.frozen? ⟨b, o, none⟩ = false :=
  ⟨by rw [cell_of_block h.1]; rfl, by rw [cell_of_block h.1]; rfl, fun o => frozen_of_block h.1⟩

theorem CurAt.set {b : Nat} {s : ByteArray} {i : Nat} {w : World} (h : CurAt b s i w) (hi : i < s.size) : CurAt b s (i + 1) (w.setCell ⟨b, 1, none⟩ (.int .i64 ((i + 1 : Nat) : Int))) :=
  ⟨by rw [heap_setCell_at h.1]; simp, hi, h.2.2⟩

theorem CurAt.setNew {b : Nat} {s : ByteArray} {i : Nat} {w : World} (h : CurAt b s i w) {p : Addr} (hp : p.block ≠ b) (u : Value) : CurAt b s i (w.setCell p u) :=
  ⟨(Below.heap_setCell w p u b (Ne.symm hp)).trans h.1, h.2⟩

set_option maxHeartbeats 400000 in
theorem atEnd_any (b : Nat) (s : ByteArray) (i : Nat) (w : World) (h : CurAt b s i w) :
    Calls Try.prog 45 #[.pointer (some ⟨b, 0, none⟩)] w fun e w' => e = .returned (.bool ((i : Int) == (s.size : Int))) ∧ Below w.heap.size w w' := by
  obtain ⟨c0, c1, fz⟩ := h.cells
  have hi := h.2.1
  have hs := h.2.2
  clear h
  go_enter Try.func45, Try.ntmps45
  go_wp2_with fail
  go_quiet (fail)
  go_wp2_with fail
  go_ret
  exact ⟨rfl, belowN (Below.refl _ _) _⟩

set_option maxHeartbeats 400000 in
theorem peek_any (b : Nat) (s : ByteArray) (i : Nat) (w : World) (h : CurAt b s i w) :
    Calls Try.prog 78 #[.pointer (some ⟨b, 0, none⟩)] w fun e w' => e = .returned (.int .u8 (byt s i : Int)) ∧ Below w.heap.size w w' := by
  have H := hid h
  have hi := h.2.1
  have hs := h.2.2
  clear h
  by_cases hlt : i < s.size
  · have hq : ((i : Int) == (s.size : Int)) = false := by simp; omega
    have HQ := hid hq
    have HB := hid (show (byt s i : Int) = ((s[i]'hlt).toNat : Int) by simp [byt, hlt])
    clear hq
    go_enter Try.func78, Try.ntmps78
    go_wp2_with fail
    refine (atEnd_any b s i _ H.out).mono ?_
    rintro e w1 ⟨he, hb⟩
    rw [HQ.out] at he
    subst he
    obtain ⟨c0, c1, fz⟩ := (H.out.below hb).cells
    go_wp2_with fail
    go_quiet (fail)
    go_wp2_with fail
    go_ret
    exact ⟨ret_y HB.out.symm, belowN hb _⟩
  · have hq : ((i : Int) == (s.size : Int)) = true := by simp; omega
    have HQ := hid hq
    have HB := hid (show (byt s i : Int) = 0 by simp [byt, hlt])
    clear hq
    go_enter Try.func78, Try.ntmps78
    go_wp2_with fail
    refine (atEnd_any b s i _ H.out).mono ?_
    rintro e w1 ⟨he, hb⟩
    rw [HQ.out] at he
    subst he
    go_wp2_with fail
    go_ret
    exact ⟨ret_y HB.out.symm, hb⟩

set_option maxHeartbeats 400000 in
theorem next_any (b : Nat) (s : ByteArray) (i : Nat) (w : World) (h : CurAt b s i w) :
    Calls Try.prog 66 #[.pointer (some ⟨b, 0, none⟩)] w fun e w' => e = .returned (.int .u8 (byt s i : Int)) ∧ CurAt b s (nxt s i) w' ∧ Cx b w w' := by
  have H := hid h
  have hi := h.2.1
  have hs := h.2.2
  clear h
  by_cases hlt : i < s.size
  · have hq : ((i : Int) == (s.size : Int)) = false := by simp; omega
    have HQ := hid hq
    have HN := hid (show nxt s i = i + 1 from if_pos hlt)
    clear hq
    go_enter Try.func66, Try.ntmps66
    go_wp2_with fail
    refine (peek_any b s i _ H.out).mono ?_
    rintro e w1 ⟨rfl, hb1⟩
    have H1 := hid (H.out.below hb1)
    go_wp2_with fail
    refine (atEnd_any b s i _ H1.out).mono ?_
    rintro e w2 ⟨he, hb2⟩
    rw [HQ.out] at he
    subst he
    have H2 := hid (H1.out.below hb2)
    obtain ⟨c0, c1, fz⟩ := H2.out.cells
    have HBB := hid (below_trans hb1 hb2)
    clear hb1 hb2
    go_wp2_with fail
    go_ret
    refine ⟨rfl, ?_, (Cx.of_below HBB.out).setCell 1 _⟩
    rw [HN.out]
    exact H2.out.set hlt
  · have hq : ((i : Int) == (s.size : Int)) = true := by simp; omega
    have HQ := hid hq
    have HN := hid (show nxt s i = i from if_neg hlt)
    clear hq
    go_enter Try.func66, Try.ntmps66
    go_wp2_with fail
    refine (peek_any b s i _ H.out).mono ?_
    rintro e w1 ⟨rfl, hb1⟩
    have H1 := hid (H.out.below hb1)
    go_wp2_with fail
    refine (atEnd_any b s i _ H1.out).mono ?_
    rintro e w2 ⟨he, hb2⟩
    rw [HQ.out] at he
    subst he
    go_wp2_with fail
    go_ret
    refine ⟨rfl, ?_, Cx.of_below (below_trans hb1 hb2)⟩
    rw [HN.out]
    exact H1.out.below hb2

set_option maxHeartbeats 400000 in
theorem kindOfSign_any (c : Nat) (hc : c < 256) (w : World) :
    Calls Try.prog 70 #[.int .u8 (c : Int)] w fun e w' => e = .returned (.int .i64 (kos c)) ∧ w' = w := by
  have HK := hid (show Lib.indexByte (⟨#[63, 73, 66, 62, 42]⟩ : ByteArray).data.toList ((c : Int).toNat.toUInt8) + 1 = kos c from kos_index ⟨c, hc⟩)
  have hb : -1 ≤ kos c ∧ kos c ≤ 5 := by unfold kos; repeat (split; · omega); omega
  obtain ⟨hb1, hb2⟩ := hb
  go_enter Try.func70, Try.ntmps70
  go_wp2_with fail
  refine (indexByte_any _ _ _).mono ?_
  rintro e w1 ⟨rfl, rfl⟩
  have hv := HK.out
  generalize Lib.indexByte (⟨#[63, 73, 66, 62, 42]⟩ : ByteArray).data.toList ((c : Int).toNat.toUInt8) = r at *
  have HV := hid hv
  have h1 : -2 ≤ r := by omega
  have h2 : r ≤ 4 := by omega
  clear hv
  go_wp2_with fail
  go_ret
  exact ⟨ret_i HV.out, rfl⟩
end Go.Proofs.Ytgekfnodmgkdaaa

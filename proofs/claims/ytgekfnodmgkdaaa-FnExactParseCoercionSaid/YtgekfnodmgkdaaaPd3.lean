/- The specification's l6Parse, loosely: some coercion and some place; of a valid coercion's own text that coercion and the place behind it. First its plain part, and the arms without operands. -/
import Derived.Test.YtgekfnodmgkdaaaPd2
import Derived.Test.YtgekfnodmgkdaaaPc7
namespace Go.Proofs.Ytgekfnodmgkdaaa
open Go.RowKit

def PsK (s : ByteArray) (d i : Nat) (w : World) (e : Ending) (w' : World) : Prop :=
  ∃ (c : Co) (k g l : Int) (a : Option Addr) (n cap : Nat) (fp : List Nat) (p : Int), e = .returned (.tuple #[.agg #[.int .i64 k, .int .i64 g, .int .i64 l, .slice a n cap], .int .i64 p]) ∧ c.At w' (.agg #[.int .i64 k, .int .i64 g, .int .i64 l, .slice a n cap]) fp ∧ Fresh w.heap.size w' fp ∧ (p = -1 ∨ ∃ q : Nat, p = (q : Int) ∧ q ≤ s.size) ∧
    (∀ c0, shpK d c0 = true → TxtAt s i (cx d c0) → c = c0 ∧ p = ((i + (cx d c0).length : Nat) : Int)) ∧ Below w.heap.size w w'

def PkC (d : Nat) : Prop := ∀ (n : Int) (s : ByteArray) (i : Nat) (w : World), n ≤ 100 → n.toNat = d → i ≤ s.size → s.size ≤ 1048576 →
  Calls Try.prog 42 #[.string s, .int .i64 (i : Int), .int .i64 n] w (PsK s d i w)

/-- What a valid coercion's text begins with. -/
theorem cx_head {s : ByteArray} {d i : Nat} {c : Co} (h : shpK (d + 1) c = true) (ht : TxtAt s i (cx (d + 1) c)) :
    i < s.size ∧ ((∃ g, c = .mk 1 g 0 [] ∧ 1 ≤ g ∧ g ≤ 3 ∧ byt s i = (sgn g).toNat ∧ (cx (d + 1) c).length = 1) ∨
    (∃ K a b, (K = 2 ∨ K = 3) ∧ c = .mk K 0 0 [a, b] ∧ byt s i = 40 ∧ shpK d a = true ∧ shpK d b = true ∧ TxtAt s (i + 1) (cx d a) ∧ byt s (i + 1 + (cx d a).length) = (if K = 2 then 62 else 42) ∧ TxtAt s (i + 1 + (cx d a).length + 1) (cx d b) ∧ byt s (i + 1 + (cx d a).length + 1 + (cx d b).length) = 41 ∧ (cx (d + 1) c).length = 1 + (cx d a).length + 1 + (cx d b).length + 1) ∨
    (∃ a, c = .mk 4 0 0 [a] ∧ byt s i = 33 ∧ shpK d a = true ∧ TxtAt s (i + 1) (cx d a) ∧ (cx (d + 1) c).length = 1 + (cx d a).length) ∨
    (∃ l a, c = .mk 5 0 l [a] ∧ byt s i = 35 ∧ isLb l = true ∧ shpK d a = true ∧ TxtAt s (i + 1) (Lib.itoa l) ∧ byt s (i + 1 + (Lib.itoa l).length) = 46 ∧ TxtAt s (i + 1 + (Lib.itoa l).length + 1) (cx d a) ∧ (cx (d + 1) c).length = 1 + (Lib.itoa l).length + 1 + (cx d a).length) ∨
    (∃ l g, c = .mk 6 g l [] ∧ byt s i = 88 ∧ isLb l = true ∧ 2 ≤ g ∧ g ≤ 5 ∧ TxtAt s (i + 1) (Lib.itoa l) ∧ byt s (i + 1 + (Lib.itoa l).length) = (sgn g).toNat ∧ i + 1 + (Lib.itoa l).length < s.size ∧ (cx (d + 1) c).length = 1 + (Lib.itoa l).length + 1)) := by
  obtain ⟨k, g, l, ts, rfl⟩ := c.shape
  obtain ⟨hn, hts⟩ := shpK_node h
  rcases nodeC_cases hn with ⟨rfl, rfl, rfl, hg1, hg2⟩ | ⟨rfl, rfl, rfl, a, b, rfl⟩ | ⟨rfl, rfl, rfl, a, b, rfl⟩ | ⟨rfl, rfl, rfl, a, rfl, _⟩ | ⟨rfl, rfl, hl, a, rfl, _⟩ | ⟨rfl, rfl, hl, hg1, hg2⟩
  · have e : cx (d + 1) (.mk 1 g 0 []) = [sgn g] := by simp [cx]
    rw [e] at ht ⊢
    exact ⟨ht.2.1, .inl ⟨g, rfl, hg1, hg2, ht.1, rfl⟩⟩
  · have e : cx (d + 1) (.mk 2 0 0 [a, b]) = 40 :: (cx d a ++ (62 :: (cx d b ++ [41]))) := by simp [cx, sgn]
    rw [e] at ht ⊢
    obtain ⟨h0, hi, ht⟩ := ht
    obtain ⟨ha, h62, _, ht⟩ := TxtAt.append.1 ht
    obtain ⟨hb, h41, _, _⟩ := TxtAt.append.1 ht
    exact ⟨hi, .inr (.inl ⟨2, a, b, by omega, rfl, h0, hts a (by simp), hts b (by simp), ha, by rw [h62]; decide, hb, h41, by simp only [List.length_cons, List.length_append, List.length_nil]; omega⟩)⟩
  · have e : cx (d + 1) (.mk 3 0 0 [a, b]) = 40 :: (cx d a ++ (42 :: (cx d b ++ [41]))) := by simp [cx, sgn]
    rw [e] at ht ⊢
    obtain ⟨h0, hi, ht⟩ := ht
    obtain ⟨ha, h62, _, ht⟩ := TxtAt.append.1 ht
    obtain ⟨hb, h41, _, _⟩ := TxtAt.append.1 ht
    exact ⟨hi, .inr (.inl ⟨3, a, b, by omega, rfl, h0, hts a (by simp), hts b (by simp), ha, by rw [h62]; decide, hb, h41, by simp only [List.length_cons, List.length_append, List.length_nil]; omega⟩)⟩
  · have e : cx (d + 1) (.mk 4 0 0 [a]) = 33 :: cx d a := by simp [cx]
    rw [e] at ht ⊢
    exact ⟨ht.2.1, .inr (.inr (.inl ⟨a, rfl, ht.1, hts a (by simp), ht.2.2, by simp only [List.length_cons]; omega⟩))⟩
  · have e : cx (d + 1) (.mk 5 0 l [a]) = 35 :: (Lib.itoa l ++ (46 :: cx d a)) := by simp [cx]
    rw [e] at ht ⊢
    obtain ⟨h0, hi, ht⟩ := ht
    obtain ⟨hlb, h46, _, ha⟩ := TxtAt.append.1 ht
    exact ⟨hi, .inr (.inr (.inr (.inl ⟨l, a, rfl, h0, hl, hts a (by simp), hlb, h46, ha, by simp only [List.length_cons, List.length_append]; omega⟩)))⟩
  · have e : cx (d + 1) (.mk 6 g l []) = 88 :: (Lib.itoa l ++ [sgn g]) := by simp [cx]
    rw [e] at ht ⊢
    obtain ⟨h0, hi, ht⟩ := ht
    obtain ⟨hlb, hs⟩ := TxtAt.append.1 ht
    exact ⟨hi, .inr (.inr (.inr (.inr ⟨l, g, rfl, h0, hl, hg1, hg2, hlb, hs.1, hs.2.1, by simp only [List.length_cons, List.length_append, List.length_nil]; omega⟩)))⟩

theorem rp_fin {w wr : World} {c : Co} {x0 x1 x2 x3 : Value} {fp : List Nat} {B : Nat} (hM : wr.heap[w.heap.size]? = some (Obj.cells #[.int .i64 0, .int .i64 0, .int .i64 0, .slice none 0 0] 44)) (hb : Below w.heap.size w wr) (hat : c.At wr (.agg #[x0, x1, x2, x3]) fp) (hf : Fresh B wr fp) (hB : w.heap.size < B) :
    Below w.heap.size w ((((wr.setCell ⟨w.heap.size, 0, none⟩ x0).setCell ⟨w.heap.size, 1, none⟩ x1).setCell ⟨w.heap.size, 2, none⟩ x2).setCell ⟨w.heap.size, 3, none⟩ x3) ∧ ((((wr.setCell ⟨w.heap.size, 0, none⟩ x0).setCell ⟨w.heap.size, 1, none⟩ x1).setCell ⟨w.heap.size, 2, none⟩ x2).setCell ⟨w.heap.size, 3, none⟩ x3).heap[w.heap.size]? = some (Obj.cells #[x0, x1, x2, x3] 44) ∧ c.At ((((wr.setCell ⟨w.heap.size, 0, none⟩ x0).setCell ⟨w.heap.size, 1, none⟩ x1).setCell ⟨w.heap.size, 2, none⟩ x2).setCell ⟨w.heap.size, 3, none⟩ x3) (.agg #[x0, x1, x2, x3]) fp ∧ Fresh w.heap.size ((((wr.setCell ⟨w.heap.size, 0, none⟩ x0).setCell ⟨w.heap.size, 1, none⟩ x1).setCell ⟨w.heap.size, 2, none⟩ x2).setCell ⟨w.heap.size, 3, none⟩ x3) fp := by
  have hne : ∀ y ∈ fp, y ≠ w.heap.size := fun y hy e => by have := (hf.2 y hy).1; omega
  obtain ⟨g1, g2⟩ := rp_put hM hb x0 x1 x2 x3
  exact ⟨g1, g2, (((hat.setCell (a := ⟨w.heap.size, 0, none⟩) hne x0).setCell (a := ⟨w.heap.size, 1, none⟩) hne x1).setCell (a := ⟨w.heap.size, 2, none⟩) hne x2).setCell (a := ⟨w.heap.size, 3, none⟩) hne x3,
    ((((hf.setCell (a := ⟨w.heap.size, 0, none⟩) hne x0).setCell (a := ⟨w.heap.size, 1, none⟩) hne x1).setCell (a := ⟨w.heap.size, 2, none⟩) hne x2).setCell (a := ⟨w.heap.size, 3, none⟩) hne x3).mono (by omega)⟩

theorem zk_at (w : World) : (Co.mk 0 0 0 []).At w (.agg #[.int .i64 0, .int .i64 0, .int .i64 0, .slice none 0 0]) [] := Co.at_mk.2 ⟨.slice none 0 0, rfl, CSl.nilA⟩

set_option linter.unusedVariables false in
set_option maxRecDepth 100000 in
set_option maxHeartbeats 400000 in
theorem l6Parse_zero : PkC 0 := by
  intro n s i w hn0 hn hi hs
  have hn1 : n < 1 := by omega
  have hB := hid ((Below.refl w.heap.size w).alloc (Nat.le_refl _) (Obj.cells #[.int .i64 0, .int .i64 0, .int .i64 0, .slice none 0 0] 44))
  clear hn
  go_enter Try.func42, Try.ntmps42
  go_wp2_with fail
  exact bodyPost_ret (v := .tuple #[.agg #[.int .i64 0, .int .i64 0, .int .i64 0, .slice none 0 0], .int .i64 (-1)]) (by simp [results, Try.results42, go_sem]) rfl ⟨_, _, _, _, _, _, _, _, _, rfl, zk_at _, Fresh.nil _ _, .inl rfl, fun c0 h => by simp [shpK] at h, hB.out⟩

set_option linter.unusedVariables false in
set_option maxRecDepth 100000 in
set_option maxHeartbeats 400000 in
theorem l6Parse_end (d : Nat) (n : Int) (s : ByteArray) (i : Nat) (w : World) (hn0 : n ≤ 100) (hn : n.toNat = d + 1) (hi : i ≤ s.size) (hs : s.size ≤ 1048576) (he : ¬ i < s.size) :
    Calls Try.prog 42 #[.string s, .int .i64 (i : Int), .int .i64 n] w (PsK s (d + 1) i w) := by
  have hn1 : ¬ (n < 1) := by omega
  have k1 : ¬ ((i : Int) < 0) := by omega
  have k2 : (s.size : Int) ≤ (i : Int) := by omega
  have k3 : ¬ ((i : Int) < (s.size : Int)) := by omega
  have hB := hid ((Below.refl w.heap.size w).alloc (Nat.le_refl _) (Obj.cells #[.int .i64 0, .int .i64 0, .int .i64 0, .slice none 0 0] 44))
  have HE := hid he
  clear hn he
  go_enter Try.func42, Try.ntmps42
  go_wp2_with fail
  exact bodyPost_ret (v := .tuple #[.agg #[.int .i64 0, .int .i64 0, .int .i64 0, .slice none 0 0], .int .i64 (-1)]) (by simp [results, Try.results42, go_sem]) rfl ⟨_, _, _, _, _, _, _, _, _, rfl, zk_at _, Fresh.nil _ _, .inl rfl, fun c0 h1 h2 => absurd (cx_head h1 h2).1 HE.out, hB.out⟩
end Go.Proofs.Ytgekfnodmgkdaaa

/- The program's writeCoercion. -/
import Derived.Test.YtgekfnodmgkdaaaDoorFc0
import Derived.Test.YtgekfnodmgkdaaaDoorBlw
import Derived.Test.YtgekfnodmgkdaaaDoorIto
import Derived.Test.YtgekfnodmgkdaaaDoorTgi
import Derived.Lib.AppendIntMem
namespace Go.Proofs.YtgekfnodmgkdaaaDoor
open Go.RowKit

/-- A struct of four that has just been boxed stands beside a builder that is written. -/
theorem okept_box4 {w wr : World} {x y z u : Value} {b : Nat} (h : Lib.OthersKept 5 (some b) (w.alloc (Obj.cells #[x, y, z, u] 45)) wr) (hb : b < w.heap.size) :
    wr.cell? ⟨w.heap.size, 0, none⟩ = some x ∧ wr.cell? ⟨w.heap.size, 1, none⟩ = some y ∧ wr.cell? ⟨w.heap.size, 2, none⟩ = some z ∧ wr.cell? ⟨w.heap.size, 3, none⟩ = some u := by
  have hk := h w.heap.size _ (alloc_new w _) (fun e => by have := Option.some.inj e; omega) (fun c fz e => by simp at e)
  exact ⟨by rw [cell_of_block hk]; rfl, by rw [cell_of_block hk]; rfl, by rw [cell_of_block hk]; rfl, by rw [cell_of_block hk]; rfl⟩

theorem Co.At.belowB {B : Nat} {w w' : World} {t : Co} {v : Value} {fp : List Nat} (h : t.At w v fp) (hb : Below B w w') (hf : ∀ x ∈ fp, x < B) : t.At w' v fp :=
  h.congr fun b hm o => hb.cell (p := ⟨b, o, none⟩) (hf b hm)

/-- A builder stands in a world with new blocks alone. -/
theorem isb_newK {B b : Nat} {bs : List Value} {w w' : World} (h : Lib.IsBuilderF 83 5 B b bs w) (hb : Below w.heap.size w w') : Lib.IsBuilderF 83 5 B b bs w' := by
  have one : ∀ p, Lib.BuilderAtF 83 5 B b p bs w → Lib.BuilderAtF 83 5 B b p bs w' := fun p hp => by
    obtain ⟨hB, v, hv, hown, hne⟩ := hp
    refine ⟨hB, v, (hb.block _ (lt_of_block hv)).trans hv, hown.kept (grown_of_below hb none) ?_, hne⟩
    cases v.ownBlock with
    | none => exact .inl rfl
    | some b => exact .inr (by simp)
  exact h.imp (one _) (one _)

theorem okept_newK {b : Nat} {w w' : World} (hb : Below w.heap.size w w') : Lib.OthersKept 5 (some b) w w' := fun k _ hk _ _ => (hb.block k (lt_of_block hk)).trans hk

theorem writeB (B b : Nat) (acc : List UInt8) (S : ByteArray) (w : World) (h : Lib.IsBuilderF 83 5 B b (Lib.byteCells acc) w) (hlen : acc.length + S.size ≤ 1099511627776) (hBw : B ≤ w.heap.size) :
    Calls Tryd.prog 124 #[.pointer (some ⟨b, 0, none⟩), .string S] w fun e w' => (∃ r, e = .returned r) ∧ Lib.IsBuilderF 83 5 B b (Lib.byteCells (acc ++ S.data.toList)) w' ∧ Below B w w' ∧ Lib.OthersKept 5 (some b) w w' :=
  writeS B b acc S.data.toList w h (by have : S.data.toList.length = S.size := Array.length_toList; omega) hBw

def WcX (d : Nat) : Prop := ∀ (t : Co) (v : Value) (fp : List Nat) (B b : Nat) (acc : List UInt8) (w : World), d ≤ 9 → shpK d t = true → t.At w v fp → (∀ x ∈ fp, x < B) → Lib.TabBelow Tryd.prog B w "internal/strconv.uint64pow10" .u64 Lib.pow10Tab → B ≤ w.heap.size → b < w.heap.size → acc.length + 60 * 2 ^ d ≤ 1099511627776 →
  Lib.IsBuilderF 83 5 B b (Lib.byteCells acc) w → Calls Tryd.prog 62 #[.pointer (some ⟨b, 0, none⟩), v] w (Wrote B b acc (cx d t) w)

set_option linter.unusedSimpArgs false in
set_option linter.unusedVariables false in
set_option maxRecDepth 100000 in
set_option maxHeartbeats 4000000 in
theorem wc_id1 (d : Nat) (ih : WcX d)  (v : Value) (fp : List Nat) (B b : Nat) (acc : List UInt8) (w : World) (hd : d + 1 ≤ 9) (hs : shpK (d + 1) (.mk 1 1 0 []) = true) (hat : Co.At w (.mk 1 1 0 []) v fp) (hfp : ∀ x ∈ fp, x < B) (htab : Lib.TabBelow Tryd.prog B w "internal/strconv.uint64pow10" .u64 Lib.pow10Tab) (hBw : B ≤ w.heap.size) (hbw : b < w.heap.size) (hacc : acc.length + 60 * 2 ^ (d + 1) ≤ 1099511627776)
    (hI : Lib.IsBuilderF 83 5 B b (Lib.byteCells acc) w) : Calls Tryd.prog 62 #[.pointer (some ⟨b, 0, none⟩), v] w (Wrote B b acc (cx (d + 1) (.mk 1 1 0 [])) w) := by
  have HIH := hid ih
  clear ih
  obtain ⟨s, rfl, hsl⟩ := Co.at_mk.1 hat
  obtain ⟨hn, hts⟩ := shpK_node hs
  obtain ⟨a, cap, rfl⟩ := hsl.shape
  have hb0 : Below B w (w.alloc (Obj.cells #[.int .i64 1, .int .i64 1, .int .i64 0, .slice a 0 cap] 45)) := (Below.refl _ _).alloc hBw _
  have HB := hid hb0
  have HI0 := hid (hI.alloc (Obj.cells #[.int .i64 1, .int .i64 1, .int .i64 0, .slice a 0 cap] 45))
  have HK := hid ((Lib.OthersKept.refl 5 (some b) w).alloc (Obj.cells #[.int .i64 1, .int .i64 1, .int .i64 0, .slice a 0 cap] 45))
  have HB0 := hid (Below.refl B (w.alloc (Obj.cells #[.int .i64 1, .int .i64 1, .int .i64 0, .slice a 0 cap] 45)))
  have HK0 := hid (Lib.OthersKept.refl 5 (some b) (w.alloc (Obj.cells #[.int .i64 1, .int .i64 1, .int .i64 0, .slice a 0 cap] 45)))
  have HC := hid hacc
  have HP : Hid (2 ^ (d + 1) = 2 * 2 ^ d ∧ 0 < 2 ^ d) := hid ⟨by rw [Nat.pow_succ]; omega, Nat.pow_pos (by omega)⟩
  have HTAB := hid htab
  have HT := hid (show cx (d + 1) (.mk 1 1 0 []) = [63] by simp [cx, sgn])
  have HL := hid (show True from trivial)
  clear hs hat hsl hn hts hfp htab hacc hI hb0
  go_enter Tryd.func62, Tryd.ntmps62
  obtain ⟨x0, x1, x2, x3⟩ := okept_box4 HK0.out hbw
  go_wp2_with fail
  refine (write1 B b _ 63 _ HI0.out (by have := HC.out; have := HP.out; have := HL.out; simp <;> omega) (by have := HB.out.size; have := HB0.out.size; omega)).mono ?_
  rintro e wz ⟨rfl, hi, hb, hk⟩
  have HI1 := hid hi
  have HB1 := hid (HB0.out.trans hb)
  have HK1 := hid (HK0.out.trans hk)
  clear hi hb hk x0 x1 x2 x3 HI0 HB0 HK0
  go_wp2_with fail
  have HIF := hid (show Lib.IsBuilderF 83 5 B b (Lib.byteCells (acc ++ cx (d + 1) (.mk 1 1 0 []))) _ from (show (acc ++ [63]) = acc ++ cx (d + 1) (.mk 1 1 0 []) by first | (rw [HT.out]; done) | (rw [HT.out]; simp)) ▸ HI1.out)
  exact bodyPost_ret (v := .tuple #[]) (by simp [results, Tryd.results62, go_sem]) rfl ⟨rfl, HIF.out, HB.out.trans HB1.out, HK.out.trans HK1.out⟩

set_option linter.unusedSimpArgs false in
set_option linter.unusedVariables false in
set_option maxRecDepth 100000 in
set_option maxHeartbeats 4000000 in
theorem wc_id2 (d : Nat) (ih : WcX d)  (v : Value) (fp : List Nat) (B b : Nat) (acc : List UInt8) (w : World) (hd : d + 1 ≤ 9) (hs : shpK (d + 1) (.mk 1 2 0 []) = true) (hat : Co.At w (.mk 1 2 0 []) v fp) (hfp : ∀ x ∈ fp, x < B) (htab : Lib.TabBelow Tryd.prog B w "internal/strconv.uint64pow10" .u64 Lib.pow10Tab) (hBw : B ≤ w.heap.size) (hbw : b < w.heap.size) (hacc : acc.length + 60 * 2 ^ (d + 1) ≤ 1099511627776)
    (hI : Lib.IsBuilderF 83 5 B b (Lib.byteCells acc) w) : Calls Tryd.prog 62 #[.pointer (some ⟨b, 0, none⟩), v] w (Wrote B b acc (cx (d + 1) (.mk 1 2 0 [])) w) := by
  have HIH := hid ih
  clear ih
  obtain ⟨s, rfl, hsl⟩ := Co.at_mk.1 hat
  obtain ⟨hn, hts⟩ := shpK_node hs
  obtain ⟨a, cap, rfl⟩ := hsl.shape
  have hb0 : Below B w (w.alloc (Obj.cells #[.int .i64 1, .int .i64 2, .int .i64 0, .slice a 0 cap] 45)) := (Below.refl _ _).alloc hBw _
  have HB := hid hb0
  have HI0 := hid (hI.alloc (Obj.cells #[.int .i64 1, .int .i64 2, .int .i64 0, .slice a 0 cap] 45))
  have HK := hid ((Lib.OthersKept.refl 5 (some b) w).alloc (Obj.cells #[.int .i64 1, .int .i64 2, .int .i64 0, .slice a 0 cap] 45))
  have HB0 := hid (Below.refl B (w.alloc (Obj.cells #[.int .i64 1, .int .i64 2, .int .i64 0, .slice a 0 cap] 45)))
  have HK0 := hid (Lib.OthersKept.refl 5 (some b) (w.alloc (Obj.cells #[.int .i64 1, .int .i64 2, .int .i64 0, .slice a 0 cap] 45)))
  have HC := hid hacc
  have HP : Hid (2 ^ (d + 1) = 2 * 2 ^ d ∧ 0 < 2 ^ d) := hid ⟨by rw [Nat.pow_succ]; omega, Nat.pow_pos (by omega)⟩
  have HTAB := hid htab
  have HT := hid (show cx (d + 1) (.mk 1 2 0 []) = [73] by simp [cx, sgn])
  have HL := hid (show True from trivial)
  clear hs hat hsl hn hts hfp htab hacc hI hb0
  go_enter Tryd.func62, Tryd.ntmps62
  obtain ⟨x0, x1, x2, x3⟩ := okept_box4 HK0.out hbw
  go_wp2_with fail
  refine (write1 B b _ 73 _ HI0.out (by have := HC.out; have := HP.out; have := HL.out; simp <;> omega) (by have := HB.out.size; have := HB0.out.size; omega)).mono ?_
  rintro e wz ⟨rfl, hi, hb, hk⟩
  have HI1 := hid hi
  have HB1 := hid (HB0.out.trans hb)
  have HK1 := hid (HK0.out.trans hk)
  clear hi hb hk x0 x1 x2 x3 HI0 HB0 HK0
  go_wp2_with fail
  have HIF := hid (show Lib.IsBuilderF 83 5 B b (Lib.byteCells (acc ++ cx (d + 1) (.mk 1 2 0 []))) _ from (show (acc ++ [73]) = acc ++ cx (d + 1) (.mk 1 2 0 []) by first | (rw [HT.out]; done) | (rw [HT.out]; simp)) ▸ HI1.out)
  exact bodyPost_ret (v := .tuple #[]) (by simp [results, Tryd.results62, go_sem]) rfl ⟨rfl, HIF.out, HB.out.trans HB1.out, HK.out.trans HK1.out⟩

set_option linter.unusedSimpArgs false in
set_option linter.unusedVariables false in
set_option maxRecDepth 100000 in
set_option maxHeartbeats 4000000 in
theorem wc_id3 (d : Nat) (ih : WcX d)  (v : Value) (fp : List Nat) (B b : Nat) (acc : List UInt8) (w : World) (hd : d + 1 ≤ 9) (hs : shpK (d + 1) (.mk 1 3 0 []) = true) (hat : Co.At w (.mk 1 3 0 []) v fp) (hfp : ∀ x ∈ fp, x < B) (htab : Lib.TabBelow Tryd.prog B w "internal/strconv.uint64pow10" .u64 Lib.pow10Tab) (hBw : B ≤ w.heap.size) (hbw : b < w.heap.size) (hacc : acc.length + 60 * 2 ^ (d + 1) ≤ 1099511627776)
    (hI : Lib.IsBuilderF 83 5 B b (Lib.byteCells acc) w) : Calls Tryd.prog 62 #[.pointer (some ⟨b, 0, none⟩), v] w (Wrote B b acc (cx (d + 1) (.mk 1 3 0 [])) w) := by
  have HIH := hid ih
  clear ih
  obtain ⟨s, rfl, hsl⟩ := Co.at_mk.1 hat
  obtain ⟨hn, hts⟩ := shpK_node hs
  obtain ⟨a, cap, rfl⟩ := hsl.shape
  have hb0 : Below B w (w.alloc (Obj.cells #[.int .i64 1, .int .i64 3, .int .i64 0, .slice a 0 cap] 45)) := (Below.refl _ _).alloc hBw _
  have HB := hid hb0
  have HI0 := hid (hI.alloc (Obj.cells #[.int .i64 1, .int .i64 3, .int .i64 0, .slice a 0 cap] 45))
  have HK := hid ((Lib.OthersKept.refl 5 (some b) w).alloc (Obj.cells #[.int .i64 1, .int .i64 3, .int .i64 0, .slice a 0 cap] 45))
  have HB0 := hid (Below.refl B (w.alloc (Obj.cells #[.int .i64 1, .int .i64 3, .int .i64 0, .slice a 0 cap] 45)))
  have HK0 := hid (Lib.OthersKept.refl 5 (some b) (w.alloc (Obj.cells #[.int .i64 1, .int .i64 3, .int .i64 0, .slice a 0 cap] 45)))
  have HC := hid hacc
  have HP : Hid (2 ^ (d + 1) = 2 * 2 ^ d ∧ 0 < 2 ^ d) := hid ⟨by rw [Nat.pow_succ]; omega, Nat.pow_pos (by omega)⟩
  have HTAB := hid htab
  have HT := hid (show cx (d + 1) (.mk 1 3 0 []) = [66] by simp [cx, sgn])
  have HL := hid (show True from trivial)
  clear hs hat hsl hn hts hfp htab hacc hI hb0
  go_enter Tryd.func62, Tryd.ntmps62
  obtain ⟨x0, x1, x2, x3⟩ := okept_box4 HK0.out hbw
  go_wp2_with fail
  refine (write1 B b _ 66 _ HI0.out (by have := HC.out; have := HP.out; have := HL.out; simp <;> omega) (by have := HB.out.size; have := HB0.out.size; omega)).mono ?_
  rintro e wz ⟨rfl, hi, hb, hk⟩
  have HI1 := hid hi
  have HB1 := hid (HB0.out.trans hb)
  have HK1 := hid (HK0.out.trans hk)
  clear hi hb hk x0 x1 x2 x3 HI0 HB0 HK0
  go_wp2_with fail
  have HIF := hid (show Lib.IsBuilderF 83 5 B b (Lib.byteCells (acc ++ cx (d + 1) (.mk 1 3 0 []))) _ from (show (acc ++ [66]) = acc ++ cx (d + 1) (.mk 1 3 0 []) by first | (rw [HT.out]; done) | (rw [HT.out]; simp)) ▸ HI1.out)
  exact bodyPost_ret (v := .tuple #[]) (by simp [results, Tryd.results62, go_sem]) rfl ⟨rfl, HIF.out, HB.out.trans HB1.out, HK.out.trans HK1.out⟩

end Go.Proofs.YtgekfnodmgkdaaaDoor

/- The program's writeType. -/
import Derived.Test.YtelbpgdlcnnabaaTx0
import Derived.Test.YtelbpgdlcnnabaaBld
namespace Go.Proofs.Ytelbpgdlcnnabaa
open Go.RowKit

/-- A struct of two that has just been boxed stands beside a builder that is written. -/
theorem okept_box {w wr : World} {x y : Value} {b : Nat} (h : Lib.OthersKept 5 (some b) (w.alloc (Obj.cells #[x, y] 25)) wr) (hb : b < w.heap.size) :
    wr.cell? ⟨w.heap.size, 0, none⟩ = some x ∧ wr.cell? ⟨w.heap.size, 1, none⟩ = some y := by
  have hk := h w.heap.size _ (alloc_new w _) (fun e => by have := Option.some.inj e; omega) (fun c fz e => by simp at e)
  exact ⟨by rw [cell_of_block hk]; rfl, by rw [cell_of_block hk]; rfl⟩

theorem Ty.At.belowB {B : Nat} {w w' : World} {t : Ty} {v : Value} {fp : List Nat} (h : t.At w v fp) (hb : Below B w w') (hf : ∀ x ∈ fp, x < B) : t.At w' v fp :=
  h.congr fun b hm o => hb.cell (p := ⟨b, o, none⟩) (hf b hm)

/-- What a writer of a text says. -/
def Wrote (B b : Nat) (acc new : List UInt8) (w : World) (e : Ending) (w' : World) : Prop :=
  e = .returned (.tuple #[]) ∧ Lib.IsBuilderF 66 5 B b (Lib.byteCells (acc ++ new)) w' ∧ Below B w w' ∧ Lib.OthersKept 5 (some b) w w'

def WtX (d : Nat) : Prop := ∀ (t : Ty) (v : Value) (fp : List Nat) (B b : Nat) (acc : List UInt8) (w : World), d ≤ 4 → shp d t = true → t.At w v fp → (∀ x ∈ fp, x < B) → B ≤ w.heap.size → b < w.heap.size → acc.length + 4 * 2 ^ d ≤ 1099511627776 →
  Lib.IsBuilderF 66 5 B b (Lib.byteCells acc) w → Calls Try.prog 83 #[.pointer (some ⟨b, 0, none⟩), v] w (Wrote B b acc (txt d t) w)

theorem byte_snoc {acc : List UInt8} {c : UInt8} {B b : Nat} {w : World} (h : Lib.BuilderAtF 66 5 B b (.pointer (some ⟨b, 0, none⟩)) (Lib.byteCells acc ++ [.int .u8 (c.toNat : Int)]) w) : Lib.IsBuilderF 66 5 B b (Lib.byteCells (acc ++ [c])) w := by
  rw [Lib.byteCells_append]
  exact Or.inr h

theorem write1 (B b : Nat) (acc : List UInt8) (c : UInt8) (w : World) (h : Lib.IsBuilderF 66 5 B b (Lib.byteCells acc) w) (hlen : acc.length ≤ 1099511627776) (hBw : B ≤ w.heap.size) :
    Calls Try.prog 107 #[.pointer (some ⟨b, 0, none⟩), .int .u8 (c.toNat : Int)] w fun e w' => e = .returned .nilIface ∧ Lib.IsBuilderF 66 5 B b (Lib.byteCells (acc ++ [c])) w' ∧ Below B w w' ∧ Lib.OthersKept 5 (some b) w w' :=
  (bldWriteByte B b _ _ w h (by rw [Lib.byteCells_length]; omega) hBw).mono fun _ _ ⟨he, h1, h2, h3⟩ => ⟨he, byte_snoc h1, h2, h3⟩

set_option maxHeartbeats 1000000 in
theorem writeType_succ (d : Nat) (ih : WtX d) : WtX (d + 1) := by
  intro t v fp B b acc w hd hs hat hfp hBw hbw hacc hI
  have HIH := hid ih
  clear ih
  obtain ⟨k, ts, rfl⟩ := t.shape
  obtain ⟨s, rfl, hsl⟩ := Ty.at_mk.1 hat
  rcases shp_cases hs with ⟨rfl, hk⟩ | ⟨x, y, rfl, hk, hx, hy⟩
  · obtain ⟨a, cap, rfl⟩ := hsl.shape
    have HI := hid (hI.alloc (Obj.cells #[.int .i64 k, .slice a 0 cap] 25))
    have HB := hid (show Below B w (w.alloc (Obj.cells #[.int .i64 k, .slice a 0 cap] 25)) from (Below.refl _ _).alloc hBw _)
    have HK := hid ((Lib.OthersKept.refl 5 (some b) w).alloc (Obj.cells #[.int .i64 k, .slice a 0 cap] 25))
    have HC := hid hacc
    clear hs hat hsl hI hfp hacc
    rcases hk with rfl | rfl | rfl
    · have HW := hid (write1 B b acc 63 _ HI.out (by have := HC.out; omega) (by have := HB.out.size; omega))
      go_enter Try.func83, Try.ntmps83
      go_wp2_with fail
      refine HW.out.mono ?_
      rintro e w1 ⟨rfl, h1, h2, h3⟩
      go_wp2_with fail
      exact bodyPost_ret (v := .tuple #[]) (by simp [results, Try.results83, go_sem]) rfl ⟨rfl, h1, HB.out.trans h2, HK.out.trans h3⟩
    · have HW := hid (write1 B b acc 73 _ HI.out (by have := HC.out; omega) (by have := HB.out.size; omega))
      go_enter Try.func83, Try.ntmps83
      go_wp2_with fail
      refine HW.out.mono ?_
      rintro e w1 ⟨rfl, h1, h2, h3⟩
      go_wp2_with fail
      exact bodyPost_ret (v := .tuple #[]) (by simp [results, Try.results83, go_sem]) rfl ⟨rfl, h1, HB.out.trans h2, HK.out.trans h3⟩
    · have HW := hid (write1 B b acc 66 _ HI.out (by have := HC.out; omega) (by have := HB.out.size; omega))
      go_enter Try.func83, Try.ntmps83
      go_wp2_with fail
      refine HW.out.mono ?_
      rintro e w1 ⟨rfl, h1, h2, h3⟩
      go_wp2_with fail
      exact bodyPost_ret (v := .tuple #[]) (by simp [results, Try.results83, go_sem]) rfl ⟨rfl, h1, HB.out.trans h2, HK.out.trans h3⟩
  · obtain ⟨bb, o, cap, k1, n1, a1, c1, k2, n2, a2, c2, f1, f2, rfl, hblt, d0, d1, d2, d3, hx1, hy1, hff, hcap⟩ := hsl.two
    have hbB : bb < B := hfp bb (by rw [hff]; simp)
    have hf1 : ∀ z ∈ f1, z < B := fun z hz => hfp z (by rw [hff]; simp [hz])
    have hf2 : ∀ z ∈ f2, z < B := fun z hz => hfp z (by rw [hff]; simp [hz])
    have hb0 : Below B w (w.alloc (Obj.cells #[.int .i64 k, .slice (some ⟨bb, o, none⟩) 2 cap] 25)) := (Below.refl _ _).alloc hBw _
    have HI := hid (hI.alloc (Obj.cells #[.int .i64 k, .slice (some ⟨bb, o, none⟩) 2 cap] 25))
    have HK := hid ((Lib.OthersKept.refl 5 (some b) w).alloc (Obj.cells #[.int .i64 k, .slice (some ⟨bb, o, none⟩) 2 cap] 25))
    have HX := hid (hx1.belowB hb0 hf1)
    have HY := hid (hy1.belowB hb0 hf2)
    have HE := hid (And.intro (cell_keepB d0 hb0 hbB) (And.intro (cell_keepB d1 hb0 hbB) (And.intro (cell_keepB d2 hb0 hbB) (cell_keepB d3 hb0 hbB))))
    have HF := hid (And.intro hf1 hf2)
    have HC := hid hacc
    have HL := hid (And.intro (txt_len d x) (txt_len d y))
    have HP : Hid (2 ^ (d + 1) = 2 * 2 ^ d) := hid (by rw [Nat.pow_succ]; omega)
    have HSX := hid hx
    have HSY := hid hy
    have HB := hid hb0
    have HT := hid (show ∀ s', sgn k = s' → txt (d + 1) (.mk k [x, y]) = 40 :: (txt d x ++ (s' :: (txt d y ++ [41]))) from fun s' h => by simp only [txt, h])
    have hbz : b < w.heap.size + 1 := by omega
    clear hs hat hsl hx hy hb0 hx1 hy1 hfp hff hf1 hf2 hI hacc d0 d1 d2 d3
    rcases hk with rfl | rfl
    · go_enter Try.func83, Try.ntmps83
      go_wp2_with fail
      refine (write1 B b acc 40 _ HI.out (by have := HC.out; have := HP.out; omega) (by have := HB.out.size; omega)).mono ?_
      rintro e w1 ⟨rfl, hi1, hb1, hk1⟩
      obtain ⟨x0, x1⟩ := okept_box hk1 hbw
      have e0 := cell_keepB HE.out.1 hb1 hbB
      have e1 := cell_keepB HE.out.2.1 hb1 hbB
      have HI1 := hid hi1
      have HB1 := hid hb1
      have HK1 := hid hk1
      clear hi1 hb1 hk1
      go_wp2_with fail
      refine (HIH.out x _ f1 B b _ _ (by omega) HSX.out (HX.out.belowB HB1.out HF.out.1) HF.out.1 (by have := HB.out.size; have := HB1.out.size; omega) (by have := HB1.out.size; simp at this; omega) (by have := HC.out; have := HP.out; have := HL.out; simp; omega) HI1.out).mono ?_
      rintro e w2 ⟨rfl, hi2, hb2, hk2⟩
      have HI2 := hid hi2
      have HB2 := hid (HB1.out.trans hb2)
      have HK2 := hid (HK1.out.trans hk2)
      clear hi2 hb2 hk2 e0 e1 x0 x1 HI1 HB1 HK1
      obtain ⟨x0, x1⟩ := okept_box HK2.out hbw
      go_wp2_with fail
      refine (write1 B b _ 62 _ HI2.out (by have := HC.out; have := HP.out; have := HL.out; simp; omega) (by have := HB.out.size; have := HB2.out.size; omega)).mono ?_
      rintro e w3 ⟨rfl, hi3, hb3, hk3⟩
      have HI3 := hid hi3
      have HB3 := hid (HB2.out.trans hb3)
      have HK3 := hid (HK2.out.trans hk3)
      clear hi3 hb3 hk3 x0 x1 HI2 HB2 HK2
      obtain ⟨x0, x1⟩ := okept_box HK3.out hbw
      have e2 := cell_keepB HE.out.2.2.1 HB3.out hbB
      have e3 := cell_keepB HE.out.2.2.2 HB3.out hbB
      go_wp2_with fail
      refine (HIH.out y _ f2 B b _ _ (by omega) HSY.out (HY.out.belowB HB3.out HF.out.2) HF.out.2 (by have := HB.out.size; have := HB3.out.size; omega) (by have := HB3.out.size; simp at this; omega) (by have := HC.out; have := HP.out; have := HL.out; simp; omega) HI3.out).mono ?_
      rintro e w4 ⟨rfl, hi4, hb4, hk4⟩
      have HI4 := hid hi4
      have HB4 := hid (HB3.out.trans hb4)
      have HK4 := hid (HK3.out.trans hk4)
      clear hi4 hb4 hk4 e2 e3 x0 x1 HI3 HB3 HK3
      go_wp2_with fail
      refine (write1 B b _ 41 _ HI4.out (by have := HC.out; have := HP.out; have := HL.out; simp; omega) (by have := HB.out.size; have := HB4.out.size; omega)).mono ?_
      rintro e w5 ⟨rfl, hi5, hb5, hk5⟩
      have hfin : (((acc ++ [40] ++ txt d x) ++ [62]) ++ txt d y) ++ [41] = acc ++ txt (d + 1) (.mk 4 [x, y]) := by rw [HT.out 62 rfl]; simp
      have HI5 := hid (hfin ▸ hi5)
      have HB5 := hid (HB.out.trans (HB4.out.trans hb5))
      have HK5 := hid (HK.out.trans (HK4.out.trans hk5))
      clear hi5 hb5 hk5 hfin HI4 HB4 HK4
      go_wp2_with fail
      exact bodyPost_ret (v := .tuple #[]) (by simp [results, Try.results83, go_sem]) rfl ⟨rfl, HI5.out, HB5.out, HK5.out⟩
    · go_enter Try.func83, Try.ntmps83
      go_wp2_with fail
      refine (write1 B b acc 40 _ HI.out (by have := HC.out; have := HP.out; omega) (by have := HB.out.size; omega)).mono ?_
      rintro e w1 ⟨rfl, hi1, hb1, hk1⟩
      obtain ⟨x0, x1⟩ := okept_box hk1 hbw
      have e0 := cell_keepB HE.out.1 hb1 hbB
      have e1 := cell_keepB HE.out.2.1 hb1 hbB
      have HI1 := hid hi1
      have HB1 := hid hb1
      have HK1 := hid hk1
      clear hi1 hb1 hk1
      go_wp2_with fail
      refine (HIH.out x _ f1 B b _ _ (by omega) HSX.out (HX.out.belowB HB1.out HF.out.1) HF.out.1 (by have := HB.out.size; have := HB1.out.size; omega) (by have := HB1.out.size; simp at this; omega) (by have := HC.out; have := HP.out; have := HL.out; simp; omega) HI1.out).mono ?_
      rintro e w2 ⟨rfl, hi2, hb2, hk2⟩
      have HI2 := hid hi2
      have HB2 := hid (HB1.out.trans hb2)
      have HK2 := hid (HK1.out.trans hk2)
      clear hi2 hb2 hk2 e0 e1 x0 x1 HI1 HB1 HK1
      obtain ⟨x0, x1⟩ := okept_box HK2.out hbw
      go_wp2_with fail
      refine (write1 B b _ 42 _ HI2.out (by have := HC.out; have := HP.out; have := HL.out; simp; omega) (by have := HB.out.size; have := HB2.out.size; omega)).mono ?_
      rintro e w3 ⟨rfl, hi3, hb3, hk3⟩
      have HI3 := hid hi3
      have HB3 := hid (HB2.out.trans hb3)
      have HK3 := hid (HK2.out.trans hk3)
      clear hi3 hb3 hk3 x0 x1 HI2 HB2 HK2
      obtain ⟨x0, x1⟩ := okept_box HK3.out hbw
      have e2 := cell_keepB HE.out.2.2.1 HB3.out hbB
      have e3 := cell_keepB HE.out.2.2.2 HB3.out hbB
      go_wp2_with fail
      refine (HIH.out y _ f2 B b _ _ (by omega) HSY.out (HY.out.belowB HB3.out HF.out.2) HF.out.2 (by have := HB.out.size; have := HB3.out.size; omega) (by have := HB3.out.size; simp at this; omega) (by have := HC.out; have := HP.out; have := HL.out; simp; omega) HI3.out).mono ?_
      rintro e w4 ⟨rfl, hi4, hb4, hk4⟩
      have HI4 := hid hi4
      have HB4 := hid (HB3.out.trans hb4)
      have HK4 := hid (HK3.out.trans hk4)
      clear hi4 hb4 hk4 e2 e3 x0 x1 HI3 HB3 HK3
      go_wp2_with fail
      refine (write1 B b _ 41 _ HI4.out (by have := HC.out; have := HP.out; have := HL.out; simp; omega) (by have := HB.out.size; have := HB4.out.size; omega)).mono ?_
      rintro e w5 ⟨rfl, hi5, hb5, hk5⟩
      have hfin : (((acc ++ [40] ++ txt d x) ++ [42]) ++ txt d y) ++ [41] = acc ++ txt (d + 1) (.mk 5 [x, y]) := by rw [HT.out 42 rfl]; simp
      have HI5 := hid (hfin ▸ hi5)
      have HB5 := hid (HB.out.trans (HB4.out.trans hb5))
      have HK5 := hid (HK.out.trans (HK4.out.trans hk5))
      clear hi5 hb5 hk5 hfin HI4 HB4 HK4
      go_wp2_with fail
      exact bodyPost_ret (v := .tuple #[]) (by simp [results, Try.results83, go_sem]) rfl ⟨rfl, HI5.out, HB5.out, HK5.out⟩

theorem writeType_any : ∀ d : Nat, WtX d
  | 0 => fun t v fp B b acc w _ hs => by simp [shp] at hs
  | d + 1 => writeType_succ d (writeType_any d)

end Go.Proofs.Ytelbpgdlcnnabaa

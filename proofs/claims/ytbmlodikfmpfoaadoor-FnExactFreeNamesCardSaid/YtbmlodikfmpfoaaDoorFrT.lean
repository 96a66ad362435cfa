/- A set's text, of the program. -/
import Derived.Test.YtbmlodikfmpfoaaDoorFr0
import Derived.Test.YtbmlodikfmpfoaaDoorBld
namespace Go.Proofs.YtbmlodikfmpfoaaDoor
open Go.RowKit

theorem fr_snoc {acc : List UInt8} {c : UInt8} {B b : Nat} {w : World} (h : Lib.BuilderAtF 139 5 B b (.pointer (some ⟨b, 0, none⟩)) (Lib.byteCells acc ++ [.int .u8 (c.toNat : Int)]) w) : Lib.IsBuilderF 139 5 B b (Lib.byteCells (acc ++ [c])) w := by
  rw [Lib.byteCells_append]
  exact Or.inr h

theorem fr_write (B b : Nat) (acc : List UInt8) (c : UInt8) (w : World) (h : Lib.IsBuilderF 139 5 B b (Lib.byteCells acc) w) (hlen : acc.length ≤ 1099511627776) (hBw : B ≤ w.heap.size) :
    Calls Tryd.prog 134 #[.pointer (some ⟨b, 0, none⟩), .int .u8 (c.toNat : Int)] w fun e w' => e = .returned .nilIface ∧ Lib.IsBuilderF 139 5 B b (Lib.byteCells (acc ++ [c])) w' ∧ Below B w w' ∧ Lib.OthersKept 5 (some b) w w' :=
  (bldWriteByte B b _ _ w h (by rw [Lib.byteCells_length]; omega) hBw).mono fun _ _ ⟨he, h1, h2, h3⟩ => ⟨he, fr_snoc h1, h2, h3⟩

/-- The letters of a set below the i-th. -/
theorem lstR_split (m : Nat) : ∀ n i, lstR m i (n + 1) = lstR m i n ++ (if m.testBit (i + n) then [(97 + (i + n)).toUInt8] else [])
  | 0, i => by simp [lstR]
  | n + 1, i => by
    have ih := lstR_split m n (i + 1)
    rw [show i + 1 + n = i + (n + 1) by omega] at ih
    rw [lstR]
    conv => rhs; rw [lstR]
    rw [ih]
    split <;> simp

theorem enc_letter : ∀ j : Nat, j < 26 → Utf8.encode (97 + (j : Int)) = ⟨#[(97 + j).toUInt8]⟩ := by decide

set_option maxRecDepth 100000 in
set_option maxHeartbeats 2000000 in
theorem setText_any (m : Nat) (hm : m < 67108864) (w : World) : Calls Tryd.prog 96 #[.int .u32 (m : Int)] w fun e w' => e = .returned (.string ⟨(lst m).toArray⟩) ∧ Below w.heap.size w w' := by
  have hba : Below w.heap.size w (w.alloc (Obj.cells #[.pointer none, .slice none 0 0] 139)) := (Below.refl _ _).alloc (Nat.le_refl _) _
  have HBA := hid hba
  have hsA : (w.alloc (Obj.cells #[.pointer none, .slice none 0 0] 139)).heap.size = w.heap.size + 1 := by simp
  have HSA := hid hsA
  have HI := hid (Lib.IsBuilderF.of (Lib.fresh_isBuilder 139 5 w))
  clear hba hsA
  go_enter Tryd.func96, Tryd.ntmps96
  go_wp2_with fail
  go_loopw [4] (fun x wr => ∃ (j : Nat), j ≤ 26 ∧ x = .int .u8 ((97 + j : Nat) : Int) ∧ Lib.IsBuilderF 139 5 w.heap.size w.heap.size (Lib.byteCells (lstR m 0 j)) wr ∧ Below w.heap.size (w.alloc (Obj.cells #[.pointer none, .slice none 0 0] 139)) wr) (fun x _ => 123 - (intOf x).toNat)
  case atStart => exact ⟨0, Nat.zero_le _, rfl, HI.out, Below.refl _ _⟩
  case round =>
    obtain ⟨j, hj, rfl, hI, hb⟩ := hrel
    have HI2 := hid hI
    have HB2 := hid hb
    have hws : w.heap.size < wr.heap.size := by have := hb.size; have := HSA.out; omega
    clear hI hb
    by_cases hlt : j < 26
    · have h1 : ((97 + j : Nat) : Int) ≤ 122 := by omega
      have h1' : (97 + (j : Int)) ≤ 122 := by omega
      have HENC := hid (enc_letter j hlt)
      have HSP := hid (lstR_split m j 0)
      have hc : (97 + j).toUInt8.toNat = 97 + j := fr_u8 (by omega)
      have HH := hid (fun w' => setHas_any m j (97 + j).toUInt8 hm hlt hc w')
      have HW := hid (fr_write w.heap.size w.heap.size (lstR m 0 j) (97 + j).toUInt8 wr HI2.out (by have := lstR_len m j 0; omega) (by omega))
      rw [hc] at HW
      clear hc
      cases hbt : m.testBit j
      · have HBT := hid hbt
        have HNX := hid (show Lib.IsBuilderF 139 5 w.heap.size w.heap.size (Lib.byteCells (lstR m 0 (j + 1))) wr by
          rw [HSP.out, Nat.zero_add, hbt]; simpa using HI2.out)
        clear hbt
        go_wp2_with fail
        rw [HENC.out]
        refine (HH.out _).mono ?_
        rw [HBT.out]
        rintro e w1 ⟨rfl, rfl⟩
        go_wp2_with fail
        go_roundw
        case rel => exact ⟨j + 1, by omega, by go_num, HNX.out, HB2.out⟩
        case measure => simp [intOf]; omega
      · have HBT := hid hbt
        have HEQ := hid (show lstR m 0 j ++ [(97 + j).toUInt8] = lstR m 0 (j + 1) by
          rw [HSP.out, Nat.zero_add, hbt]; simp)
        clear hbt
        go_wp2_with fail
        rw [HENC.out]
        refine (HH.out _).mono ?_
        rw [HBT.out]
        rintro e w1 ⟨rfl, rfl⟩
        go_wp2_with fail
        refine HW.out.mono ?_
        rw [HEQ.out]
        rintro e w2 ⟨rfl, hi2, hb2, hk2⟩
        have HNX := hid hi2
        have HBX := hid (HB2.out.trans hb2)
        clear hi2 hb2 hk2
        go_wp2_with fail
        go_roundw
        case rel => exact ⟨j + 1, by omega, by go_num, HNX.out, HBX.out⟩
        case measure => simp [intOf]; omega
    · have : j = 26 := by omega
      subst this
      go_wp2_with fail
      refine (bldString w.heap.size w.heap.size _ _ HI2.out (by omega)).mono ?_
      rintro e w3 ⟨rfl, hi3, hb3, hk3⟩
      go_wp2_with fail
      go_ret
      exact ⟨rfl, HBA.out.trans (HB2.out.trans hb3)⟩
end Go.Proofs.YtbmlodikfmpfoaaDoor

/- Sets of names: bits of a number, and ascending strings. The specification's sets of names. A set's text, of the program. -/
import Derived.Laws.BitsAll
import Derived.Laws.Shifts
import Derived.Deep.RegionHeld3
import Derived.Test.YtffmpjcjmffdeaaDoorVG1
namespace Go.Proofs.YtffmpjcjmffdeaaDoor
open Go.RowKit

/-- The letters of a set, from the i-th on. -/
def lstR (m : Nat) : Nat → Nat → List UInt8
  | _, 0 => []
  | i, n + 1 => if m.testBit i then (97 + i).toUInt8 :: lstR m (i + 1) n else lstR m (i + 1) n
/-- The letters of a set in ascending order. -/
def lst (m : Nat) : List UInt8 := lstR m 0 26

/-- A letter added to an ascending list. -/
def addL : List UInt8 → UInt8 → List UInt8
  | [], c => [c]
  | x :: xs, c => if x < c then x :: addL xs c else if x = c then x :: xs else c :: x :: xs

theorem lstR_len (m : Nat) : ∀ n i, (lstR m i n).length ≤ n
  | 0, _ => by simp [lstR]
  | n + 1, i => by
    have := lstR_len m n (i + 1)
    simp only [lstR]
    split
    · simp; omega
    · omega

theorem fr_u8 {i : Nat} (h : i < 256) : i.toUInt8.toNat = i := by
  simp only [Nat.toUInt8, UInt8.toNat_ofNat']
  omega

theorem fr_orlt {m j : Nat} (hm : m < 67108864) (hj : j < 26) : m ||| 2 ^ j < 67108864 :=
  Nat.or_lt_two_pow (n := 26) hm (Nat.pow_lt_pow_right (by omega) hj)

theorem fr_pow {i : Nat} (hi : i < 26) : 2 ^ i < 67108864 := Nat.pow_lt_pow_right (n := 26) (by omega) hi

theorem fr_and {m i : Nat} (hm : m < 67108864) : (bits .and .u32 ((m : Int) / ((2 ^ i : Nat) : Int)) 1 == 1) = m.testBit i := by
  have h1 : ((m : Int) / ((2 ^ i : Nat) : Int)) = ((m / 2 ^ i : Nat) : Int) := by rw [Int.natCast_ediv]
  rw [h1]
  have h2 := u32_and_nat (m / 2 ^ i) 1 (Nat.lt_of_le_of_lt (Nat.div_le_self _ _) (by omega)) (by omega)
  have h3 : ((1 : Nat) : Int) = 1 := rfl
  rw [h3] at h2
  rw [h2, nat_mask1, Nat.testBit_eq_decide_div_mod_eq]
  rw [Bool.eq_iff_iff]
  simp only [beq_iff_eq, decide_eq_true_eq]
  omega

theorem fr_or {m i : Nat} (hm : m < 67108864) (hi : i < 26) : bits .or .u32 (m : Int) ((2 ^ i : Nat) : Int) = ((m ||| 2 ^ i : Nat) : Int) :=
  u32_or_nat m (2 ^ i) (by omega) (by have := fr_pow hi; omega)

set_option maxHeartbeats 1000000 in
theorem setHas_any (m i : Nat) (c : UInt8) (hm : m < 67108864) (hi : i < 26) (hc : c.toNat = 97 + i) (w : World) : Calls Tryd.prog 139 #[.int .u32 (m : Int), .string ⟨#[c]⟩] w fun e w' => e = .returned (.bool (m.testBit i)) ∧ w' = w := by
  have h0 : ((⟨#[c]⟩ : ByteArray)[0]'(by show 0 < 1; omega)).toNat = 97 + i := hc
  have h1 : (97 + (i : Int) - 97) % 256 = (i : Int) := by omega
  have h2 : (i : Int) % 256 = (i : Int) := by omega
  have h3 : min i 32 = i := by omega
  have h4 : (((97 + i : Nat) : Int) - 97) % 256 = (i : Int) := by omega
  have HB := hid (fr_and (i := i) hm)
  go_enter Tryd.func139, Tryd.ntmps139
  go_wp2_with fail
  go_ret
  exact ⟨ret_b HB.out, rfl⟩

set_option maxHeartbeats 1000000 in
theorem setWith_any (m i : Nat) (c : UInt8) (hm : m < 67108864) (hi : i < 26) (hc : c.toNat = 97 + i) (w : World) : Calls Tryd.prog 96 #[.int .u32 (m : Int), .string ⟨#[c]⟩] w fun e w' => e = .returned (.int .u32 ((m ||| 2 ^ i : Nat) : Int)) ∧ w' = w := by
  have h0 : ((⟨#[c]⟩ : ByteArray)[0]'(by show 0 < 1; omega)).toNat = 97 + i := hc
  have h1 : (97 + (i : Int) - 97) % 256 = (i : Int) := by omega
  have h2 : (i : Int) % 256 = (i : Int) := by omega
  have h3 : min i 32 = i := by omega
  have h4 : (((97 + i : Nat) : Int) - 97) % 256 = (i : Int) := by omega
  have HB := hid (fr_or hm hi)
  have HP := hid (show ((2 ^ i % 4294967296 : Nat) : Int) = ((2 ^ i : Nat) : Int) by have := fr_pow hi; rw [Nat.mod_eq_of_lt (by omega)])
  go_enter Tryd.func96, Tryd.ntmps96
  go_wp2_with fail
  refine bodyPost_ret (v := .int .u32 ((m ||| 2 ^ i : Nat) : Int)) ?_ rfl ⟨rfl, rfl⟩
  have h5 := HB.out
  have h6 := HP.out
  simp [results, Tryd.results96, go_sem]
  have h7 : ((2 ^ i : Nat) : Int) = (2 : Int) ^ i := by simp
  have h8 : ((2 ^ i % 4294967296 : Nat) : Int) = (2 : Int) ^ i % 4294967296 := by rw [Int.natCast_emod, h7]; rfl
  rw [h8] at h6
  rw [h6]
  exact h5
end Go.Proofs.YtffmpjcjmffdeaaDoor

namespace Go.Proofs.YtffmpjcjmffdeaaDoor
open Go.RowKit

theorem addL_split : ∀ (l : List UInt8) (c : UInt8) (k : Nat), k ≤ l.length → (∀ j (h : j < l.length), j < k → l[j] < c) → (∀ h : k < l.length, ¬ l[k] < c) →
    addL l c = if k < l.length ∧ l[k]? = some c then l else l.take k ++ c :: l.drop k
  | [], c, k, hk, _, _ => by
    have : k = 0 := by simpa using hk
    subst this
    simp [addL]
  | x :: xs, c, 0, _, _, h => by
    have h1 := h (by simp)
    simp only [List.getElem_cons_zero] at h1
    simp only [addL]
    rw [if_neg h1]
    by_cases h2 : x = c
    · simp [h2]
    · simp [h2]
  | x :: xs, c, k + 1, hk, ha, h => by
    have h1 : x < c := ha 0 (by simp) (by omega)
    have ih := addL_split xs c k (by simpa using hk) (fun j hj hjk => by have := ha (j + 1) (by simpa using hj) (by omega); simpa using this) (fun hk => by have := h (by simpa using hk); simpa using this)
    simp only [addL]
    rw [if_pos h1, ih]
    by_cases h2 : k < xs.length ∧ xs[k]? = some c
    · rw [if_pos h2, if_pos (by simpa using h2)]
    · rw [if_neg h2, if_neg (by simpa using h2)]
      simp

theorem fr_slice (w : World) (s : ByteArray) (j : Nat) (h : j < s.size) :
    (Instr.slice 9 (.string s) (some (.int .i64 j)) (some (.int .i64 ((j : Int) + 1))) none).run Tryd.prog w = .ok (.string (s.extract j (j + 1))) w := by
  have h1 : ((j : Int) + 1).toNat = j + 1 := by omega
  have h2 : (j : Int) + 1 ≤ (s.size : Int) := by omega
  have h3 : (0 : Int) ≤ (j : Int) + 1 := by omega
  have h4 : (j : Int) ≤ (j : Int) + 1 := by omega
  simp [Instr.slice, run_underlying Tryd.underlying9, Instr.sliceBounds, run_sliceBound, h1, h2, h3, h4]

theorem fr_ext {s : ByteArray} {j : Nat} (h : j < s.size) : (s.extract j (j + 1)).toList = [s[j]] := by
  have h0 : j < s.data.size := h
  rw [ByteArray.toList_eq]
  simp only [ByteArray.data_extract, Array.toList_extract]
  have h1 : s.data.toList.length = s.data.size := Array.length_toList
  rw [List.extract_eq_take_drop, show j + 1 - j = 1 by omega, List.drop_eq_getElem_cons (by rw [h1]; exact h0)]
  simp
  rfl

theorem fr_at {s : ByteArray} {l : List UInt8} (hl : s.data.toList = l) {j : Nat} (h : j < s.size) : ∃ h' : j < l.length, l[j] = s[j] := by
  subst hl
  exact ⟨by rw [Array.length_toList]; exact h, Array.getElem_toList _⟩

theorem fr_len {s : ByteArray} {l : List UInt8} (hl : s.data.toList = l) : l.length = s.size := by
  subst hl
  exact Array.length_toList

theorem add_str {s : ByteArray} {l : List UInt8} (hl : s.data.toList = l) {j : Nat} (hj : j ≤ s.size) (c : UInt8) (ha : ∀ k (h : k < l.length), k < j → l[k] < c) (hn : ∀ h : j < l.length, ¬ l[j] < c ∧ l[j] ≠ c) :
    (s.extract 0 j ++ ⟨#[c]⟩) ++ s.extract j s.size = ⟨(addL l c).toArray⟩ := by
  have hll := fr_len hl
  rw [addL_split l c j (by omega) ha (fun h => (hn h).1), if_neg (by
    rintro ⟨h1, h2⟩
    rw [List.getElem?_eq_getElem h1] at h2
    exact (hn h1).2 (Option.some.inj h2))]
  apply ByteArray.ext
  apply Array.toList_inj.1
  simp only [ByteArray.data_append, ByteArray.data_extract, Array.toList_append, Array.toList_extract, List.extract_eq_take_drop, hl, Nat.sub_zero, List.drop_zero]
  rw [List.take_of_length_le (l := l.drop j) (by rw [List.length_drop, hll]; exact Nat.le_refl _)]
  simp

theorem add_same {l : List UInt8} (c : UInt8) {j : Nat} (hj : j < l.length) (ha : ∀ k (h : k < l.length), k < j → l[k] < c) (he : l[j] = c) : addL l c = l := by
  rw [addL_split l c j (by omega) ha (fun h => by rw [he, UInt8.lt_iff_toNat_lt]; omega), if_pos ⟨hj, by rw [List.getElem?_eq_getElem hj, he]⟩]

theorem fr_less {x c : UInt8} : Op.bytesLess [x] [c] = decide (x < c) := by
  simp [Op.bytesLess]

set_option maxRecDepth 100000 in
set_option maxHeartbeats 2000000 in
theorem l2Add_s (s : ByteArray) (l : List UInt8) (c : UInt8) (hl : s.size ≤ 100) (w : World) (hsl : s.data.toList = l) : Calls Tryd.prog 144 #[.string s, .string ⟨#[c]⟩] w fun e w' => e = .returned (.string ⟨(addL l c).toArray⟩) ∧ Below w.heap.size w w' := by
  have HSL := hid hsl
  clear hsl
  go_enter Tryd.func144, Tryd.ntmps144
  go_wp2_with fail
  go_loopw [5] (fun i wr => ∃ j : Nat, j ≤ s.size ∧ i = .int .i64 j ∧ wr = w ∧ Hid (∀ k (h : k < l.length), k < j → l[k] < c)) (fun i _ => s.size - (intOf i).toNat)
  case atStart => exact ⟨0, Nat.zero_le _, rfl, rfl, hid fun k _ h => by omega⟩
  case round =>
    obtain ⟨j, hj, rfl, rfl, ha⟩ := hrel
    by_cases hlt : j < s.size
    · by_cases hc : s[j] < c
      · have HN := hid (show ∀ k (h : k < l.length), k < j + 1 → l[k] < c from fun k h hk => by
          by_cases hkj : k = j
          · subst hkj
            obtain ⟨h', e⟩ := fr_at HSL.out hlt
            rw [e]; exact hc
          · exact ha.out k h (by omega))
        have e1 : Op.bytesLess (s.extract j (j + 1)).toList [c] = true := by rw [fr_ext hlt, fr_less]; simpa using hc
        clear hc
        go_wp2_with fail
        rw [fr_slice _ _ _ hlt]
        go_wp2_with fail
        exact ⟨⟨j + 1, by omega, by go_num, trivial, HN.out⟩, by simp [intOf]; omega⟩
      · have e1 : Op.bytesLess (s.extract j (j + 1)).toList [c] = false := by rw [fr_ext hlt, fr_less]; simpa using hc
        by_cases hq : s[j] = c
        · have HR := hid (show s = ⟨(addL l c).toArray⟩ by
            obtain ⟨h', e⟩ := fr_at HSL.out hlt
            rw [add_same c h' ha.out (e.trans hq)]
            apply ByteArray.ext
            rw [← HSL.out])
          have e2 : ((s.extract j (j + 1)).toList == [c]) = true := by rw [fr_ext hlt, hq]; simp
          clear hc hq
          go_wp2_with fail
          rw [fr_slice _ _ _ hlt]
          go_wp2_with fail
          rw [fr_slice _ _ _ hlt]
          go_wp2_with fail
          go_ret
          exact ⟨ret_s HR.out, Below.refl _ _⟩
        · have HR := hid (add_str HSL.out hj c ha.out (fun h => by
            obtain ⟨h', e⟩ := fr_at HSL.out hlt
            rw [e]; exact ⟨hc, hq⟩))
          have e2 : ((s.extract j (j + 1)).toList == [c]) = false := by rw [fr_ext hlt]; simp [hq]
          have q1 : ¬ (9223372036854775807 < j + 1) := by omega
          have q2 : ¬ (9223372036854775807 < j + 1 + (s.size - j)) := by omega
          clear hc hq
          go_wp2_with fail
          rw [fr_slice _ _ _ hlt]
          go_wp2_with fail
          rw [fr_slice _ _ _ hlt]
          go_wp2_with fail
          go_region_held3 (fun w' => Below wr.heap.size wr w') (exact below_drew _) (fail)
          go_wp2_with fail
          go_ret
          exact ⟨ret_s HR.out, below_drew _⟩
    · have hje : j = s.size := by omega
      have HR := hid (add_str HSL.out hj c ha.out (fun h => by have := fr_len HSL.out; omega))
      have q1 : ¬ (9223372036854775807 < j + 1) := by omega
      have q2 : ¬ (9223372036854775807 < j + 1 + (s.size - j)) := by omega
      clear hje
      go_wp2_with fail
      go_region_held3 (fun w' => Below wr.heap.size wr w') (exact below_drew _) (fail)
      go_wp2_with fail
      go_ret
      exact ⟨ret_s HR.out, below_drew _⟩
end Go.Proofs.YtffmpjcjmffdeaaDoor

namespace Go.Proofs.YtffmpjcjmffdeaaDoor
open Go.RowKit

theorem fr_snoc {acc : List UInt8} {c : UInt8} {B b : Nat} {w : World} (h : Lib.BuilderAtF 160 5 B b (.pointer (some ⟨b, 0, none⟩)) (Lib.byteCells acc ++ [.int .u8 (c.toNat : Int)]) w) : Lib.IsBuilderF 160 5 B b (Lib.byteCells (acc ++ [c])) w := by
  rw [Lib.byteCells_append]
  exact Or.inr h

theorem fr_write (B b : Nat) (acc : List UInt8) (c : UInt8) (w : World) (h : Lib.IsBuilderF 160 5 B b (Lib.byteCells acc) w) (hlen : acc.length ≤ 1099511627776) (hBw : B ≤ w.heap.size) :
    Calls Tryd.prog 140 #[.pointer (some ⟨b, 0, none⟩), .int .u8 (c.toNat : Int)] w fun e w' => e = .returned .nilIface ∧ Lib.IsBuilderF 160 5 B b (Lib.byteCells (acc ++ [c])) w' ∧ Below B w w' ∧ Lib.OthersKept 5 (some b) w w' :=
  (bldWriteByte B b _ _ w h (by rw [Lib.byteCells_length]; omega) hBw).mono fun _ _ ⟨he, h1, h2, h3⟩ => ⟨he, fr_snoc h1, h2, h3⟩

/-- The letters of a set below the i-th. -/
theorem lstR_split (m : Nat) : ∀ n i, lstR m i (n + 1) = lstR m i n ++ (if m.testBit (i + n) then [(97 + (i + n)).toUInt8] else [])
  | 0, i => by simp [lstR]
  | n + 1, i => by
    have ih := lstR_split m n (i + 1)
    rw [show i + 1 + n = i + (n + 1) by omega] at ih
    rw [lstR]
    conv => rhs; rw [lstR]
    rw [ih]
    split <;> simp

theorem enc_letter : ∀ j : Nat, j < 26 → Utf8.encode (97 + (j : Int)) = ⟨#[(97 + j).toUInt8]⟩ := by decide

set_option maxRecDepth 100000 in
set_option maxHeartbeats 2000000 in
theorem setText_any (m : Nat) (hm : m < 67108864) (w : World) : Calls Tryd.prog 97 #[.int .u32 (m : Int)] w fun e w' => e = .returned (.string ⟨(lst m).toArray⟩) ∧ Below w.heap.size w w' := by
  have hba : Below w.heap.size w (w.alloc (Obj.cells #[.pointer none, .slice none 0 0] 160)) := (Below.refl _ _).alloc (Nat.le_refl _) _
  have HBA := hid hba
  have hsA : (w.alloc (Obj.cells #[.pointer none, .slice none 0 0] 160)).heap.size = w.heap.size + 1 := by simp
  have HSA := hid hsA
  have HI := hid (Lib.IsBuilderF.of (Lib.fresh_isBuilder 160 5 w))
  clear hba hsA
  go_enter Tryd.func97, Tryd.ntmps97
  go_wp2_with fail
  go_loopw [4] (fun x wr => ∃ (j : Nat), j ≤ 26 ∧ x = .int .u8 ((97 + j : Nat) : Int) ∧ Lib.IsBuilderF 160 5 w.heap.size w.heap.size (Lib.byteCells (lstR m 0 j)) wr ∧ Below w.heap.size (w.alloc (Obj.cells #[.pointer none, .slice none 0 0] 160)) wr) (fun x _ => 123 - (intOf x).toNat)
  case atStart => exact ⟨0, Nat.zero_le _, rfl, HI.out, Below.refl _ _⟩
  case round =>
    obtain ⟨j, hj, rfl, hI, hb⟩ := hrel
    have HI2 := hid hI
    have HB2 := hid hb
    have hws : w.heap.size < wr.heap.size := by have := hb.size; have := HSA.out; omega
    clear hI hb
    by_cases hlt : j < 26
    · have h1 : ((97 + j : Nat) : Int) ≤ 122 := by omega
      have h1' : (97 + (j : Int)) ≤ 122 := by omega
      have HENC := hid (enc_letter j hlt)
      have HSP := hid (lstR_split m j 0)
      have hc : (97 + j).toUInt8.toNat = 97 + j := fr_u8 (by omega)
      have HH := hid (fun w' => setHas_any m j (97 + j).toUInt8 hm hlt hc w')
      have HW := hid (fr_write w.heap.size w.heap.size (lstR m 0 j) (97 + j).toUInt8 wr HI2.out (by have := lstR_len m j 0; omega) (by omega))
      rw [hc] at HW
      clear hc
      cases hbt : m.testBit j
      · have HBT := hid hbt
        have HNX := hid (show Lib.IsBuilderF 160 5 w.heap.size w.heap.size (Lib.byteCells (lstR m 0 (j + 1))) wr by
          rw [HSP.out, Nat.zero_add, hbt]; simpa using HI2.out)
        clear hbt
        go_wp2_with fail
        rw [HENC.out]
        refine (HH.out _).mono ?_
        rw [HBT.out]
        rintro e w1 ⟨rfl, rfl⟩
        go_wp2_with fail
        go_roundw
        case rel => exact ⟨j + 1, by omega, by go_num, HNX.out, HB2.out⟩
        case measure => simp [intOf]; omega
      · have HBT := hid hbt
        have HEQ := hid (show lstR m 0 j ++ [(97 + j).toUInt8] = lstR m 0 (j + 1) by
          rw [HSP.out, Nat.zero_add, hbt]; simp)
        clear hbt
        go_wp2_with fail
        rw [HENC.out]
        refine (HH.out _).mono ?_
        rw [HBT.out]
        rintro e w1 ⟨rfl, rfl⟩
        go_wp2_with fail
        refine HW.out.mono ?_
        rw [HEQ.out]
        rintro e w2 ⟨rfl, hi2, hb2, hk2⟩
        have HNX := hid hi2
        have HBX := hid (HB2.out.trans hb2)
        clear hi2 hb2 hk2
        go_wp2_with fail
        go_roundw
        case rel => exact ⟨j + 1, by omega, by go_num, HNX.out, HBX.out⟩
        case measure => simp [intOf]; omega
    · have : j = 26 := by omega
      subst this
      go_wp2_with fail
      refine (bldString w.heap.size w.heap.size _ _ HI2.out (by omega)).mono ?_
      rintro e w3 ⟨rfl, hi3, hb3, hk3⟩
      go_wp2_with fail
      go_ret
      exact ⟨rfl, HBA.out.trans (HB2.out.trans hb3)⟩
end Go.Proofs.YtffmpjcjmffdeaaDoor

/- The specification's sets of names. -/
import Derived.Test.YtbmlodikfmpfoaaDoorFr0
import Derived.Deep.RegionHeld3
namespace Go.Proofs.YtbmlodikfmpfoaaDoor
open Go.RowKit

theorem addL_split : ∀ (l : List UInt8) (c : UInt8) (k : Nat), k ≤ l.length → (∀ j (h : j < l.length), j < k → l[j] < c) → (∀ h : k < l.length, ¬ l[k] < c) →
    addL l c = if k < l.length ∧ l[k]? = some c then l else l.take k ++ c :: l.drop k
  | [], c, k, hk, _, _ => by
    have : k = 0 := by simpa using hk
    subst this
    simp [addL]
  | x :: xs, c, 0, _, _, h => by
    have h1 := h (by simp)
    simp only [List.getElem_cons_zero] at h1
    simp only [addL]
    rw [if_neg h1]
    by_cases h2 : x = c
    · simp [h2]
    · simp [h2]
  | x :: xs, c, k + 1, hk, ha, h => by
    have h1 : x < c := ha 0 (by simp) (by omega)
    have ih := addL_split xs c k (by simpa using hk) (fun j hj hjk => by have := ha (j + 1) (by simpa using hj) (by omega); simpa using this) (fun hk => by have := h (by simpa using hk); simpa using this)
    simp only [addL]
    rw [if_pos h1, ih]
    by_cases h2 : k < xs.length ∧ xs[k]? = some c
    · rw [if_pos h2, if_pos (by simpa using h2)]
    · rw [if_neg h2, if_neg (by simpa using h2)]
      simp

theorem fr_slice (w : World) (s : ByteArray) (j : Nat) (h : j < s.size) :
    (Instr.slice 9 (.string s) (some (.int .i64 j)) (some (.int .i64 ((j : Int) + 1))) none).run Tryd.prog w = .ok (.string (s.extract j (j + 1))) w := by
  have h1 : ((j : Int) + 1).toNat = j + 1 := by omega
  have h2 : (j : Int) + 1 ≤ (s.size : Int) := by omega
  have h3 : (0 : Int) ≤ (j : Int) + 1 := by omega
  have h4 : (j : Int) ≤ (j : Int) + 1 := by omega
  simp [Instr.slice, run_underlying Tryd.underlying9, Instr.sliceBounds, run_sliceBound, h1, h2, h3, h4]

theorem fr_ext {s : ByteArray} {j : Nat} (h : j < s.size) : (s.extract j (j + 1)).toList = [s[j]] := by
  have h0 : j < s.data.size := h
  rw [ByteArray.toList_eq]
  simp only [ByteArray.data_extract, Array.toList_extract]
  have h1 : s.data.toList.length = s.data.size := Array.length_toList
  rw [List.extract_eq_take_drop, show j + 1 - j = 1 by omega, List.drop_eq_getElem_cons (by rw [h1]; exact h0)]
  simp
  rfl

theorem fr_at {s : ByteArray} {l : List UInt8} (hl : s.data.toList = l) {j : Nat} (h : j < s.size) : ∃ h' : j < l.length, l[j] = s[j] := by
  subst hl
  exact ⟨by rw [Array.length_toList]; exact h, Array.getElem_toList _⟩

theorem fr_len {s : ByteArray} {l : List UInt8} (hl : s.data.toList = l) : l.length = s.size := by
  subst hl
  exact Array.length_toList

set_option maxRecDepth 100000 in
set_option maxHeartbeats 2000000 in
theorem l2Has_s (s : ByteArray) (l : List UInt8) (c : UInt8) (hl : s.size ≤ 100) (w : World) (hsl : s.data.toList = l) : Calls Tryd.prog 127 #[.string s, .string ⟨#[c]⟩] w fun e w' => e = .returned (.bool (decide (c ∈ l))) ∧ w' = w := by
  have HSL := hid hsl
  clear hsl
  go_enter Tryd.func127, Tryd.ntmps127
  go_wp2_with fail
  go_loopw [5] (fun i wr => ∃ j : Nat, j ≤ s.size ∧ i = .int .i64 j ∧ wr = w ∧ Hid (∀ k (h : k < l.length), k < j → l[k] ≠ c)) (fun i _ => s.size - (intOf i).toNat)
  case atStart => exact ⟨0, Nat.zero_le _, rfl, rfl, hid fun k _ h => by omega⟩
  case round =>
    obtain ⟨j, hj, rfl, rfl, ha⟩ := hrel
    by_cases hlt : j < s.size
    · by_cases hc : s[j] = c
      · have HR := hid (show decide (c ∈ l) = true by obtain ⟨h', e⟩ := fr_at HSL.out hlt; rw [decide_eq_true_eq, ← hc, ← e]; exact List.getElem_mem h')
        have e1 : ((s.extract j (j + 1)).toList == [c]) = true := by rw [fr_ext hlt, hc]; simp
        clear hc
        go_wp2_with fail
        rw [fr_slice _ _ _ hlt]
        go_wp2_with fail
        go_ret
        exact ⟨ret_b HR.out.symm, rfl⟩
      · have HN := hid (show ∀ k (h : k < l.length), k < j + 1 → l[k] ≠ c from fun k h hk => by
          by_cases hkj : k = j
          · subst hkj
            obtain ⟨h', e⟩ := fr_at HSL.out hlt
            rw [e]; exact hc
          · exact ha.out k h (by omega))
        have e1 : ((s.extract j (j + 1)).toList == [c]) = false := by rw [fr_ext hlt]; simp [hc]
        clear hc
        go_wp2_with fail
        rw [fr_slice _ _ _ hlt]
        go_wp2_with fail
        exact ⟨⟨j + 1, by omega, by go_num, trivial, HN.out⟩, by simp [intOf]; omega⟩
    · have HR := hid (show decide (c ∈ l) = false by
        rw [decide_eq_false_iff_not]
        intro hm
        obtain ⟨k, hk, e⟩ := List.getElem_of_mem hm
        have := fr_len HSL.out
        exact ha.out k hk (by omega) e)
      go_wp2_with fail
      go_ret
      exact ⟨ret_b HR.out.symm, rfl⟩

theorem add_str {s : ByteArray} {l : List UInt8} (hl : s.data.toList = l) {j : Nat} (hj : j ≤ s.size) (c : UInt8) (ha : ∀ k (h : k < l.length), k < j → l[k] < c) (hn : ∀ h : j < l.length, ¬ l[j] < c ∧ l[j] ≠ c) :
    (s.extract 0 j ++ ⟨#[c]⟩) ++ s.extract j s.size = ⟨(addL l c).toArray⟩ := by
  have hll := fr_len hl
  rw [addL_split l c j (by omega) ha (fun h => (hn h).1), if_neg (by
    rintro ⟨h1, h2⟩
    rw [List.getElem?_eq_getElem h1] at h2
    exact (hn h1).2 (Option.some.inj h2))]
  apply ByteArray.ext
  apply Array.toList_inj.1
  simp only [ByteArray.data_append, ByteArray.data_extract, Array.toList_append, Array.toList_extract, List.extract_eq_take_drop, hl, Nat.sub_zero, List.drop_zero]
  rw [List.take_of_length_le (l := l.drop j) (by rw [List.length_drop, hll]; exact Nat.le_refl _)]
  simp

theorem add_same {l : List UInt8} (c : UInt8) {j : Nat} (hj : j < l.length) (ha : ∀ k (h : k < l.length), k < j → l[k] < c) (he : l[j] = c) : addL l c = l := by
  rw [addL_split l c j (by omega) ha (fun h => by rw [he, UInt8.lt_iff_toNat_lt]; omega), if_pos ⟨hj, by rw [List.getElem?_eq_getElem hj, he]⟩]

theorem fr_less {x c : UInt8} : Op.bytesLess [x] [c] = decide (x < c) := by
  simp [Op.bytesLess]

set_option maxRecDepth 100000 in
set_option maxHeartbeats 2000000 in
theorem l2Add_s (s : ByteArray) (l : List UInt8) (c : UInt8) (hl : s.size ≤ 100) (w : World) (hsl : s.data.toList = l) : Calls Tryd.prog 128 #[.string s, .string ⟨#[c]⟩] w fun e w' => e = .returned (.string ⟨(addL l c).toArray⟩) ∧ Below w.heap.size w w' := by
  have HSL := hid hsl
  clear hsl
  go_enter Tryd.func128, Tryd.ntmps128
  go_wp2_with fail
  go_loopw [5] (fun i wr => ∃ j : Nat, j ≤ s.size ∧ i = .int .i64 j ∧ wr = w ∧ Hid (∀ k (h : k < l.length), k < j → l[k] < c)) (fun i _ => s.size - (intOf i).toNat)
  case atStart => exact ⟨0, Nat.zero_le _, rfl, rfl, hid fun k _ h => by omega⟩
  case round =>
    obtain ⟨j, hj, rfl, rfl, ha⟩ := hrel
    by_cases hlt : j < s.size
    · by_cases hc : s[j] < c
      · have HN := hid (show ∀ k (h : k < l.length), k < j + 1 → l[k] < c from fun k h hk => by
          by_cases hkj : k = j
          · subst hkj
            obtain ⟨h', e⟩ := fr_at HSL.out hlt
            rw [e]; exact hc
          · exact ha.out k h (by omega))
        have e1 : Op.bytesLess (s.extract j (j + 1)).toList [c] = true := by rw [fr_ext hlt, fr_less]; simpa using hc
        clear hc
        go_wp2_with fail
        rw [fr_slice _ _ _ hlt]
        go_wp2_with fail
        exact ⟨⟨j + 1, by omega, by go_num, trivial, HN.out⟩, by simp [intOf]; omega⟩
      · have e1 : Op.bytesLess (s.extract j (j + 1)).toList [c] = false := by rw [fr_ext hlt, fr_less]; simpa using hc
        by_cases hq : s[j] = c
        · have HR := hid (show s = ⟨(addL l c).toArray⟩ by
            obtain ⟨h', e⟩ := fr_at HSL.out hlt
            rw [add_same c h' ha.out (e.trans hq)]
            apply ByteArray.ext
            rw [← HSL.out])
          have e2 : ((s.extract j (j + 1)).toList == [c]) = true := by rw [fr_ext hlt, hq]; simp
          clear hc hq
          go_wp2_with fail
          rw [fr_slice _ _ _ hlt]
          go_wp2_with fail
          rw [fr_slice _ _ _ hlt]
          go_wp2_with fail
          go_ret
          exact ⟨ret_s HR.out, Below.refl _ _⟩
        · have HR := hid (add_str HSL.out hj c ha.out (fun h => by
            obtain ⟨h', e⟩ := fr_at HSL.out hlt
            rw [e]; exact ⟨hc, hq⟩))
          have e2 : ((s.extract j (j + 1)).toList == [c]) = false := by rw [fr_ext hlt]; simp [hq]
          have q1 : ¬ (9223372036854775807 < j + 1) := by omega
          have q2 : ¬ (9223372036854775807 < j + 1 + (s.size - j)) := by omega
          clear hc hq
          go_wp2_with fail
          rw [fr_slice _ _ _ hlt]
          go_wp2_with fail
          rw [fr_slice _ _ _ hlt]
          go_wp2_with fail
          go_region_held3 (fun w' => Below wr.heap.size wr w') (exact below_drew _) (fail)
          go_wp2_with fail
          go_ret
          exact ⟨ret_s HR.out, below_drew _⟩
    · have hje : j = s.size := by omega
      have HR := hid (add_str HSL.out hj c ha.out (fun h => by have := fr_len HSL.out; omega))
      have q1 : ¬ (9223372036854775807 < j + 1) := by omega
      have q2 : ¬ (9223372036854775807 < j + 1 + (s.size - j)) := by omega
      clear hje
      go_wp2_with fail
      go_region_held3 (fun w' => Below wr.heap.size wr w') (exact below_drew _) (fail)
      go_wp2_with fail
      go_ret
      exact ⟨ret_s HR.out, below_drew _⟩
end Go.Proofs.YtbmlodikfmpfoaaDoor

/- ParseCoercion, of the specification. -/
import Derived.Test.YtgekfnodmgkdaaaPd4
import Derived.Test.YtgekfnodmgkdaaaFcS
import Derived.Test.YtgekfnodmgkdaaaCw6
namespace Go.Proofs.Ytgekfnodmgkdaaa
open Go.RowKit

theorem shpK_smallP : ∀ {d : Nat} {t : Co}, shpK d t = true → t.cnt + 2 ≤ 2 ^ (d + 1)
  | 0, _, h => by simp [shpK] at h
  | d + 1, .mk k g l ts, h => by
    obtain ⟨hn, hs⟩ := shpK_node h
    have hp : 0 < 2 ^ d := Nat.pow_pos (by omega)
    have h0 : ts = [] → (Co.mk k g l ts).cnt + 2 ≤ 2 ^ (d + 1 + 1) := by
      rintro rfl
      simp only [Co.cnt, ccntL, List.length_nil, Nat.pow_succ]
      omega
    have h1 : ∀ a, ts = [a] → (Co.mk k g l ts).cnt + 2 ≤ 2 ^ (d + 1 + 1) := by
      rintro a rfl
      have := shpK_smallP (hs a (by simp))
      simp only [Co.cnt, ccntL, List.length_cons, List.length_nil, Nat.pow_succ] at *
      omega
    have h2 : ∀ a b, ts = [a, b] → (Co.mk k g l ts).cnt + 2 ≤ 2 ^ (d + 1 + 1) := by
      rintro a b rfl
      have := shpK_smallP (hs a (by simp))
      have := shpK_smallP (hs b (by simp))
      simp only [Co.cnt, ccntL, List.length_cons, List.length_nil, Nat.pow_succ] at *
      omega
    rcases nodeC_cases hn with ⟨_, e, _⟩ | ⟨_, _, _, a, b, e⟩ | ⟨_, _, _, a, b, e⟩ | ⟨_, _, _, a, e, _⟩ | ⟨_, _, _, a, e, _⟩ | ⟨_, e, _⟩
    · exact h0 e
    · exact h2 a b e
    · exact h2 a b e
    · exact h1 a e
    · exact h1 a e
    · exact h0 e

theorem shpK_cnt20P {d : Nat} {t : Co} (h : shpK d t = true) (hd : d ≤ 9) : t.cnt ≤ 1048576 := by
  have h1 := shpK_smallP h
  have h2 : 2 ^ (d + 1) ≤ 2 ^ 10 := Nat.pow_le_pow_right (by omega) (by omega)
  omega

set_option maxHeartbeats 400000 in
theorem specFormatCoercion (t : Co) (v : Value) (fp : List Nat) (w : World) (hat : t.At w v fp) :
    Calls Try.prog 43 #[v] w fun e w' => e = .returned (.string ⟨(fcV t).toArray⟩) ∧ Below w.heap.size w w' := by
  obtain ⟨k, g, l, m, a, cap, rfl⟩ := hat.agg
  have hB : Below w.heap.size w (w.alloc (Obj.cells #[.int .i64 k, .int .i64 g, .int .i64 l, .slice a m cap] 44)) := (Below.refl _ _).alloc (Nat.le_refl _) _
  have hat1 := hat.below hB
  cases hv : vldK t with
  | false =>
    have HT := hid (show fcV t = [] by simp [fcV, hv])
    have HV := hid hv
    clear hv
    go_enter Try.func43, Try.ntmps43
    go_wp2_with fail
    refine (specCoercionValid_any t _ _ _ hat1).mono ?_
    rintro e w1 ⟨he, hb⟩
    rw [HV.out] at he
    subst he
    go_wp2_with fail
    go_ret
    exact ⟨ret_s (by rw [HT.out]), alloc1 hb⟩
  | true =>
    have HT := hid (show fcV t = cx 9 t by simp [fcV, hv])
    have HV := hid hv
    clear hv
    go_enter Try.func43, Try.ntmps43
    go_wp2_with fail
    refine (specCoercionValid_any t _ _ _ hat1).mono ?_
    rintro e w1 ⟨he, hb⟩
    rw [HV.out] at he
    subst he
    obtain ⟨x0, x1, x2, x3⟩ := box4 hb
    go_wp2_with fail
    refine (l6Text_any 9 t _ _ _ (Nat.le_refl _) HV.out (hat1.below hb)).mono ?_
    rintro e w2 ⟨rfl, hb2⟩
    have hbb := below_trans (alloc1 hb) hb2
    go_wp2_with fail
    go_ret
    exact ⟨ret_s (by rw [HT.out]), hbb⟩

theorem nmList_neP {x y : ByteArray} (h : x ≠ y) : (x.toList == y.toList) = false := by
  rw [beq_eq_false_iff_ne]
  intro he
  rw [Lib.toList_data, Lib.toList_data] at he
  exact h (ByteArray.ext (Array.toList_inj.1 he))

theorem pcT_cnt (s : ByteArray) : (pcT s).cnt ≤ 1048576 := by
  unfold pcT
  split
  · simp [Co.cnt, ccntL]
  · split
    · rename_i h; exact shpK_cnt20P h.2 (Nat.le_refl _)
    · simp [Co.cnt, ccntL]

theorem pc_false {s : ByteArray} (h : pcOk s = false) : pcT s = .mk 0 0 0 [] := by
  unfold pcOk at h
  unfold pcT
  split
  · rfl
  · rename_i c j e
    rw [e] at h
    simp only [Bool.and_eq_false_iff, decide_eq_false_iff_not] at h
    rw [if_neg (fun q => by rcases h with h | h; exact h q.1; rw [q.2] at h; cases h)]

theorem txt_of : ∀ (s : ByteArray) (l : List UInt8) (i : Nat), TxtAt s i l → ∀ k (h : k < l.length), ∃ h' : i + k < s.size, s[i + k]'h' = l[k]
  | s, l, i, ht, k, h => by
    obtain ⟨h1, h2⟩ := TxtAt.get ht h
    refine ⟨h2, ?_⟩
    rw [byt_ix h2] at h1
    exact UInt8.toNat_inj.1 h1

/-- The whole of a text. -/
theorem txt_whole {s : ByteArray} {l : List UInt8} : (TxtAt s 0 l ∧ l.length = s.size) ↔ s = ⟨l.toArray⟩ := by
  constructor
  · rintro ⟨h1, h2⟩
    apply ByteArray.ext
    apply Array.ext
    · have : s.data.size = s.size := rfl
      simp; omega
    · intro k h3 h4
      have h5 : k < l.length := by simpa using h4
      obtain ⟨h6, h7⟩ := txt_of s l 0 h1 k h5
      simp only [Nat.zero_add] at h7
      have h8 : s.data[k]'h3 = l[k] := h7
      simpa using h8
  · rintro rfl
    refine ⟨?_, by simp [ByteArray.size]⟩
    have gen : ∀ (r : List UInt8) (i : Nat) (t : List UInt8), t.length = i → TxtAt ⟨(t ++ r).toArray⟩ i r := by
      intro r
      induction r with
      | nil => intro i t _; trivial
      | cons c r ih =>
        intro i t ht
        have hs : i < (⟨(t ++ c :: r).toArray⟩ : ByteArray).size := by simp [ByteArray.size]; omega
        refine ⟨?_, hs, ?_⟩
        · rw [byt_ix hs]
          have : (⟨(t ++ c :: r).toArray⟩ : ByteArray)[i]'hs = (t ++ c :: r)[i]'(by simp; omega) := rfl
          rw [this, List.getElem_append_right (by omega)]
          simp [ht]
        · have := ih (i + 1) (t ++ [c]) (by simp [ht])
          simpa using this
    exact gen l 0 [] rfl

theorem cx_pos {d : Nat} {c : Co} (h : shpK (d + 1) c = true) : 1 ≤ (cx (d + 1) c).length := by
  obtain ⟨k, g, l, ts, rfl⟩ := c.shape
  obtain ⟨hn, _⟩ := shpK_node h
  rcases nodeC_cases hn with ⟨rfl, rfl, rfl, _, _⟩ | ⟨rfl, rfl, rfl, a, b, rfl⟩ | ⟨rfl, rfl, rfl, a, b, rfl⟩ | ⟨rfl, rfl, rfl, a, rfl, _⟩ | ⟨rfl, rfl, _, a, rfl, _⟩ | ⟨rfl, rfl, _, _, _⟩ <;> simp [cx]

end Go.Proofs.Ytgekfnodmgkdaaa

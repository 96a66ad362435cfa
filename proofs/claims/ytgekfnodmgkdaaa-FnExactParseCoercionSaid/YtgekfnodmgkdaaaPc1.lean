/- The program's reading of coercions: a valid coercion's own text, and nothing else. -/
import Derived.Test.YtgekfnodmgkdaaaPc0
namespace Go.Proofs.Ytgekfnodmgkdaaa
open Go.RowKit

theorem sgn_ne {g : Int} : (sgn g).toNat ≠ 40 ∧ (sgn g).toNat ≠ 33 ∧ (sgn g).toNat ≠ 35 ∧ (sgn g).toNat ≠ 88 ∧ (sgn g).toNat ≠ 41 ∧ isDg (sgn g).toNat = false := by
  unfold sgn
  split
  · decide
  · split
    · decide
    · split
      · decide
      · split <;> decide

theorem shpK_mk {e : Nat} {k g l : Int} {ts : List Co} (h : shpK e (.mk k g l ts) = true) : ∃ e', nodeC k g l ts = true ∧ ∀ t ∈ ts, shpK e' t = true := by
  cases e with
  | zero => simp [shpK] at h
  | succ e => exact ⟨e, shpK_node h⟩

theorem shpK_of {d : Nat} {k g l : Int} {ts : List Co} (h : nodeC k g l ts = true) (hk : ∀ t ∈ ts, shpK d t = true) : shpK (d + 1) (.mk k g l ts) = true := by
  simp only [shpK, h, Bool.true_and, List.all_eq_true]
  exact hk

theorem TxtAt.one {s : ByteArray} {i : Nat} {c : UInt8} (h : TxtAt s i [c]) : byt s i = c.toNat ∧ i < s.size := ⟨h.1, h.2.1⟩

/-- A valid coercion's text is read. -/
theorem prc_cx {s : ByteArray} : ∀ (d : Nat) (c : Co) (i : Nat), shpK d c = true → TxtAt s i (cx d c) → prc s d i = some (c, i + (cx d c).length)
  | 0, _, _, h, _ => by simp [shpK] at h
  | d + 1, .mk k g l ts, i, h, ht => by
    obtain ⟨hn, hts⟩ := shpK_node h
    rcases nodeC_cases hn with ⟨rfl, rfl, rfl, hg1, hg2⟩ | ⟨rfl, rfl, rfl, a, b, rfl⟩ | ⟨rfl, rfl, rfl, a, b, rfl⟩ | ⟨rfl, rfl, rfl, a, rfl, _⟩ | ⟨rfl, rfl, hl, a, rfl, _⟩ | ⟨rfl, rfl, hl, hg1, hg2⟩
    · have e : cx (d + 1) (.mk 1 g 0 []) = [sgn g] := by simp [cx]
      rw [e] at ht ⊢
      obtain ⟨hb, hi⟩ := ht.one
      have q := sgn_ne (g := g)
      rw [prc, hb, if_neg q.1, if_neg q.2.1, if_neg q.2.2.1, if_neg q.2.2.2.1, kos_sgn ⟨hg1, by omega⟩, nxt, if_pos hi]
      rfl
    · have e : cx (d + 1) (.mk 2 0 0 [a, b]) = 40 :: (cx d a ++ (62 :: (cx d b ++ [41]))) := by simp [cx, sgn]
      rw [e] at ht ⊢
      obtain ⟨h0, _, ht⟩ := ht
      obtain ⟨ha, h62, _, ht⟩ := TxtAt.append.1 ht
      obtain ⟨hb, h41, _, _⟩ := TxtAt.append.1 ht
      have e1 := prc_cx d a (i + 1) (hts a (by simp)) ha
      have e2 := prc_cx d b (i + 1 + (cx d a).length + 1) (hts b (by simp)) hb
      have h0' : byt s i = 40 := h0
      have h62' : byt s (i + 1 + (cx d a).length) = 62 := h62
      have h41' : byt s (i + 1 + (cx d a).length + 1 + (cx d b).length) = 41 := h41
      rw [prc, if_pos h0', prcTwo, e1]
      simp only [h62', true_or, if_true, e2, h41']
      congr 2
      simp only [List.length_cons, List.length_append, List.length_nil]
      omega
    · have e : cx (d + 1) (.mk 3 0 0 [a, b]) = 40 :: (cx d a ++ (42 :: (cx d b ++ [41]))) := by simp [cx, sgn]
      rw [e] at ht ⊢
      obtain ⟨h0, _, ht⟩ := ht
      obtain ⟨ha, h62, _, ht⟩ := TxtAt.append.1 ht
      obtain ⟨hb, h41, _, _⟩ := TxtAt.append.1 ht
      have e1 := prc_cx d a (i + 1) (hts a (by simp)) ha
      have e2 := prc_cx d b (i + 1 + (cx d a).length + 1) (hts b (by simp)) hb
      have h0' : byt s i = 40 := h0
      have h62' : byt s (i + 1 + (cx d a).length) = 42 := h62
      have h41' : byt s (i + 1 + (cx d a).length + 1 + (cx d b).length) = 41 := h41
      have q : ¬ ((42 : Nat) = 62) := by omega
      rw [prc, if_pos h0', prcTwo, e1]
      simp only [h62', or_true, if_true, e2, h41', if_neg q]
      congr 2
      simp only [List.length_cons, List.length_append, List.length_nil]
      omega
    · have e : cx (d + 1) (.mk 4 0 0 [a]) = 33 :: cx d a := by simp [cx]
      rw [e] at ht ⊢
      obtain ⟨h0, _, ha⟩ := ht
      have e1 := prc_cx d a (i + 1) (hts a (by simp)) ha
      have h0' : byt s i = 33 := h0
      rw [prc, if_neg (by rw [h0']; omega), if_pos h0', e1]
      simp only [List.length_cons]
      congr 2
      omega
    · have e : cx (d + 1) (.mk 5 0 l [a]) = 35 :: (Lib.itoa l ++ (46 :: cx d a)) := by simp [cx]
      rw [e] at ht ⊢
      obtain ⟨h0, _, ht⟩ := ht
      obtain ⟨hlb, h46, _, ha⟩ := TxtAt.append.1 ht
      have h0' : byt s i = 35 := h0
      have h46' : byt s (i + 1 + (Lib.itoa l).length) = 46 := h46
      have hl0 : l ≠ 0 := fun e => by subst e; simp [isLb] at hl
      have e1 := prc_cx d a (i + 1 + (Lib.itoa l).length + 1) (hts a (by simp)) ha
      have e2 := rdl_itoa hl hl0 hlb (by rw [h46']; decide)
      rw [prc, if_neg (by rw [h0']; omega), if_neg (by rw [h0']; omega), if_pos h0', prcPrj, e2]
      simp only [h46', if_true, e1]
      congr 2
      simp only [List.length_cons, List.length_append]
      omega
    · have e : cx (d + 1) (.mk 6 g l []) = 88 :: (Lib.itoa l ++ [sgn g]) := by simp [cx]
      rw [e] at ht ⊢
      obtain ⟨h0, _, ht⟩ := ht
      obtain ⟨hlb, hs⟩ := TxtAt.append.1 ht
      obtain ⟨hs, hi⟩ := hs.one
      have h0' : byt s i = 88 := h0
      have hl0 : l ≠ 0 := fun e => by subst e; simp [isLb] at hl
      have e2 := rdl_itoa hl hl0 hlb (by rw [hs]; exact sgn_ne.2.2.2.2.2)
      rw [prc, if_neg (by rw [h0']; omega), if_neg (by rw [h0']; omega), if_neg (by rw [h0']; omega), if_pos h0', e2]
      simp only [hs, kos_sgn ⟨by omega, hg2⟩, nxt, if_pos hi]
      congr 2
      simp only [List.length_cons, List.length_append, List.length_nil]
      omega

/-- What is read, and valid, stands there as its own text. -/
theorem cx_prc {s : ByteArray} : ∀ (d : Nat) (c : Co) (i j e : Nat), prc s d i = some (c, j) → shpK e c = true → shpK d c = true ∧ TxtAt s i (cx d c) ∧ j = i + (cx d c).length
  | 0, _, _, _, _, h, _ => by simp [prc] at h
  | d + 1, c, i, j, e, h, hv => by
    have ih := fun (c : Co) (i j e : Nat) => cx_prc (s := s) d c i j e
    rw [prc] at h
    split at h
    · rename_i h40
      unfold prcTwo at h
      split at h
      · cases h
      · rename_i a j1 hA
        split at h
        · rename_i hq
          split at h
          · cases h
          · rename_i b j2 hB
            split at h
            · rename_i h41
              simp only [Option.some.injEq, Prod.mk.injEq] at h
              obtain ⟨rfl, rfl⟩ := h
              obtain ⟨e', hn, hk⟩ := shpK_mk hv
              obtain ⟨sa, ta, rfl⟩ := ih a _ _ _ hA (hk a (by simp))
              obtain ⟨sb, tb, rfl⟩ := ih b _ _ _ hB (hk b (by simp))
              have hcx : cx (d + 1) (.mk (if byt s (i + 1 + (cx d a).length) = 62 then 2 else 3) 0 0 [a, b]) = 40 :: (cx d a ++ ((if byt s (i + 1 + (cx d a).length) = 62 then 62 else 42) :: (cx d b ++ [41]))) := by
                simp only [cx]
                split <;> simp [sgn]
              refine ⟨shpK_of hn (fun t ht => ?_), ?_, ?_⟩
              · simp only [List.mem_cons, List.not_mem_nil, or_false] at ht
                rcases ht with rfl | rfl
                · exact sa
                · exact sb
              · rw [hcx]
                refine ⟨h40, byt_in (by rw [h40]; decide), TxtAt.append.2 ⟨ta, ?_, byt_in (by omega), TxtAt.append.2 ⟨tb, h41, byt_in (by rw [h41]; decide), trivial⟩⟩⟩
                split
                · rename_i hw; rw [hw]; rfl
                · rename_i hw; rw [hq.resolve_left hw]; rfl
              · rw [hcx]
                simp only [List.length_cons, List.length_append, List.length_nil]
                omega
            · cases h
        · cases h
    · split at h
      · rename_i h33
        split at h
        · cases h
        · rename_i a j1 hA
          simp only [Option.some.injEq, Prod.mk.injEq] at h
          obtain ⟨rfl, rfl⟩ := h
          obtain ⟨e', hn, hk⟩ := shpK_mk hv
          obtain ⟨sa, ta, rfl⟩ := ih a _ _ _ hA (hk a (by simp))
          have hcx : cx (d + 1) (.mk 4 0 0 [a]) = 33 :: cx d a := by simp [cx]
          rw [hcx]
          refine ⟨shpK_of hn (fun t ht => ?_), ⟨h33, byt_in (by rw [h33]; decide), ta⟩, by simp only [List.length_cons]; omega⟩
          simp only [List.mem_cons, List.not_mem_nil, or_false] at ht
          subst ht
          exact sa
      · split at h
        · rename_i h35
          unfold prcPrj at h
          split at h
          · cases h
          · rename_i l j1 hL
            split at h
            · rename_i h46
              split at h
              · cases h
              · rename_i a j2 hA
                simp only [Option.some.injEq, Prod.mk.injEq] at h
                obtain ⟨rfl, rfl⟩ := h
                obtain ⟨e', hn, hk⟩ := shpK_mk hv
                obtain ⟨sa, ta, rfl⟩ := ih a _ _ _ hA (hk a (by simp))
                have hl0 : l ≠ 0 := fun e => by subst e; simp [nodeC, isLb] at hn
                obtain ⟨tl, rfl⟩ := itoa_rdl hL hl0
                have hcx : cx (d + 1) (.mk 5 0 l [a]) = 35 :: (Lib.itoa l ++ (46 :: cx d a)) := by simp [cx]
                rw [hcx]
                refine ⟨shpK_of hn (fun t ht => ?_), ⟨h35, byt_in (by rw [h35]; decide), TxtAt.append.2 ⟨tl, h46, byt_in (by rw [h46]; decide), ta⟩⟩, by simp only [List.length_cons, List.length_append]; omega⟩
                simp only [List.mem_cons, List.not_mem_nil, or_false] at ht
                subst ht
                exact sa
            · cases h
        · split at h
          · rename_i h88
            split at h
            · cases h
            · rename_i l j1 hL
              simp only [Option.some.injEq, Prod.mk.injEq] at h
              obtain ⟨rfl, rfl⟩ := h
              obtain ⟨e', hn, hk⟩ := shpK_mk hv
              have hl0 : l ≠ 0 := fun e => by subst e; simp [nodeC, isLb] at hn
              obtain ⟨tl, rfl⟩ := itoa_rdl hL hl0
              have hg : 2 ≤ kos (byt s (i + 1 + (Lib.itoa l).length)) := by
                have hn2 := hn
                simp [nodeC] at hn2
                omega
              have hs := sgn_kos (c := byt s (i + 1 + (Lib.itoa l).length)) (by omega)
              have hb : byt s (i + 1 + (Lib.itoa l).length) ≠ 0 := fun e => by rw [e] at hg; simp [kos] at hg
              have hcx : ∀ g, cx (d + 1) (.mk 6 g l []) = 88 :: (Lib.itoa l ++ [sgn g]) := fun g => by simp [cx]
              rw [hcx]
              refine ⟨shpK_of hn (fun t ht => by simp at ht), ⟨h88, byt_in (by rw [h88]; decide), TxtAt.append.2 ⟨tl, hs.symm, byt_in hb, trivial⟩⟩, ?_⟩
              rw [nxt_in hb]
              simp only [List.length_cons, List.length_append, List.length_nil]
              omega
          · simp only [Option.some.injEq, Prod.mk.injEq] at h
            obtain ⟨rfl, rfl⟩ := h
            obtain ⟨e', hn, hk⟩ := shpK_mk hv
            have hg : 1 ≤ kos (byt s i) := by
              have hn2 := hn
              simp [nodeC] at hn2
              omega
            have hs := sgn_kos (c := byt s i) hg
            have hb : byt s i ≠ 0 := fun e => by rw [e] at hg; simp [kos] at hg
            have hcx : ∀ g, cx (d + 1) (.mk 1 g 0 []) = [sgn g] := fun g => by simp [cx]
            rw [hcx]
            refine ⟨shpK_of hn (fun t ht => by simp at ht), ⟨hs.symm, byt_in hb, trivial⟩, ?_⟩
            rw [nxt_in hb]
            rfl
end Go.Proofs.Ytgekfnodmgkdaaa

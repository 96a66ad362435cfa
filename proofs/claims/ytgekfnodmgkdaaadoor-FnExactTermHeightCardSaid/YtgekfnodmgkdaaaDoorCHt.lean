/- The height of a coercion: the specification's function and the program's. -/
import Derived.Test.YtgekfnodmgkdaaaDoorCw6
namespace Go.Proofs.YtgekfnodmgkdaaaDoor
open Go.RowKit

/-- Kinds and numbers of operands fit, at every level. -/
theorem nodeC_hgt {k g l : Int} {ts : List Co} (h : nodeC k g l ts = true) : (k == 2 || k == 3 || (ts.length : Int) == 0) = !(k == 4 || k == 5) := by
  rcases nodeC_cases h with ⟨rfl, rfl, _⟩ | ⟨rfl, _, _, a, b, rfl⟩ | ⟨rfl, _, _, a, b, rfl⟩ | ⟨rfl, _, _, a, rfl, _⟩ | ⟨rfl, _, _, a, rfl, _⟩ | ⟨rfl, rfl, _⟩ <;> simp

def Ht6C (d : Nat) : Prop := ∀ (t : Co) (v : Value) (fp : List Nat) (w : World), shpK d t = true → t.At w v fp → t.cnt ≤ 1048576 →
  Calls Tryd.prog 127 #[v] w fun e w' => e = .returned (.int .i64 (hgt t)) ∧ Below w.heap.size w w'

set_option maxHeartbeats 1000000 in
theorem l6Height_succ (d : Nat) (ih : Ht6C d) : Ht6C (d + 1) := by
  intro t v fp w hsh hat hn
  have HIH := hid ih
  clear ih
  obtain ⟨k, g, l, ts, rfl⟩ := t.shape
  obtain ⟨s, rfl, hs⟩ := Co.at_mk.1 hat
  obtain ⟨a, cap, rfl, hc, hm, hget⟩ := hs.open
  have HG := hid hget
  have HN := hid (show ts.length + ccntL ts ≤ 1048576 by simpa only [Co.cnt] using hn)
  obtain ⟨hnode, hkids⟩ := shpK_node hsh
  have HND := hid hnode
  have HKD := hid hkids
  clear hget hat hs hn hsh hnode hkids
  go_enter Tryd.func127, Tryd.ntmps127
  go_wp2_with fail
  go_loopw [3, 4] (fun n i wr => ∃ (j : Nat) (c : Int), j ≤ ts.length ∧ i = .int .i64 j ∧ n = .int .i64 c ∧ c = hgtL (ts.take j) ∧ 0 ≤ c ∧ c ≤ 1048577 ∧ Below (w.alloc (Obj.cells #[.int .i64 k, .int .i64 g, .int .i64 l, .slice a ts.length cap] 45)).heap.size (w.alloc (Obj.cells #[.int .i64 k, .int .i64 g, .int .i64 l, .slice a ts.length cap] 45)) wr) (fun _ i _ => ts.length - (intOf i).toNat)
  case atStart => exact ⟨0, 0, Nat.zero_le _, rfl, rfl, by simp [hgtL], by omega, by omega, Below.refl _ _⟩
  case round =>
    obtain ⟨j, c, hj, rfl, rfl, hcc, hc0, hc1, hb⟩ := hrel
    have HC := hid hcc
    clear hcc
    obtain ⟨x0, x1, x2, x3⟩ := box4 hb
    by_cases hlk : j < ts.length
    · obtain ⟨b, o, k1, g1, l1, n1, a1, cap1, f1, rfl, hblt, c0, c1, c2, c3, hat, hf⟩ := HG.out j hlk
      have hbw := alloc1 hb
      have d0 := (hbw.cell (p := ⟨b, o + j * 4, none⟩) hblt).trans c0
      have d1 := (hbw.cell (p := ⟨b, o + j * 4 + 1, none⟩) hblt).trans c1
      have d2 := (hbw.cell (p := ⟨b, o + j * 4 + 2, none⟩) hblt).trans c2
      have d3 := (hbw.cell (p := ⟨b, o + j * 4 + 3, none⟩) hblt).trans c3
      clear c0 c1 c2 c3
      have hbd := hgt_bd ts[j]
      have hle := ccnt_mem (List.getElem_mem hlk)
      have hle2 : ts[j].cnt ≤ 1048576 := by have := HN.out; omega
      have HST := hid (show max c (hgt ts[j]) = hgtL (ts.take (j + 1)) by rw [ctake_succ hlk, hgtL_snoc, ← HC.out])
      clear hle
      go_wp2_with fail
      refine (HIH.out _ _ _ _ (HKD.out _ (List.getElem_mem hlk)) (hat.below hbw) hle2).mono ?_
      rintro e w1 ⟨rfl, hb1⟩
      have hbb := hb.trans (hb1.mono hb.size)
      clear hb hb1 hat d0 d1 d2 d3 hbw
      generalize hgt ts[j] = r at *
      by_cases hr : c < r
      · go_wp2_with fail
        go_roundw
        case rel => exact ⟨j + 1, r, by omega, by go_num, by first | rfl | (congr 1; omega), by rw [← HST.out]; omega, by omega, by omega, hbb⟩
        case measure => simp [intOf]; omega
      · go_wp2_with fail
        go_roundw
        case rel => exact ⟨j + 1, c, by omega, by go_num, by first | rfl | (congr 1; omega), by rw [← HST.out]; omega, by omega, by omega, hbb⟩
        case measure => simp [intOf]; omega
    · have hcl : c = hgtL ts := by rw [HC.out, List.take_of_length_le (by omega)]
      have HCL := hid hcl
      have hbb := alloc1 hb
      have hq := nodeC_hgt HND.out
      clear hcl
      by_cases h45 : k = 4 ∨ k = 5
      · have HT := hid (show hgt (.mk k g l ts) = hgtL ts by simp [hgt, h45])
        have e45 : (k == 4 || k == 5) = true := by simpa using h45
        rw [e45] at hq
        simp only [Bool.not_true, Bool.or_eq_false_iff] at hq
        obtain ⟨⟨q2, q3⟩, q4⟩ := hq
        clear h45 e45
        go_wp2_with fail
        go_ret
        exact ⟨ret_i (by rw [HT.out, HCL.out]), hbb⟩
      · have HT := hid (show hgt (.mk k g l ts) = hgtL ts + 1 by simp [hgt, h45])
        have e45 : (k == 4 || k == 5) = false := by simpa using h45
        rw [e45] at hq
        clear h45 e45
        by_cases q2 : k = 2
        · subst q2
          go_wp2_with fail
          go_ret
          exact ⟨ret_i (by rw [HT.out, HCL.out]), hbb⟩
        have q21 : (k == 2) = false := by simpa using q2
        by_cases q3 : k = 3
        · subst q3
          go_wp2_with fail
          go_ret
          exact ⟨ret_i (by rw [HT.out, HCL.out]), hbb⟩
        have q31 : (k == 3) = false := by simpa using q3
        rw [q21, q31] at hq
        simp only [Bool.false_or, Bool.not_false] at hq
        go_wp2_with fail
        go_ret
        exact ⟨ret_i (by rw [HT.out, HCL.out]), hbb⟩

theorem l6Height_any : ∀ d, Ht6C d
  | 0 => fun t v fp w h => by simp [shpK] at h
  | d + 1 => l6Height_succ d (l6Height_any d)

def HtC (t : Co) : Prop := ∀ (v : Value) (fp : List Nat) (w : World), t.At w v fp → t.cnt ≤ 1048576 →
  Calls Tryd.prog 70 #[v] w fun e w' => e = .returned (.int .i64 (hgt t)) ∧ Below w.heap.size w w'

set_option maxHeartbeats 1000000 in
theorem heightOf_of (k g l : Int) (ts : List Co) (ih : ∀ t ∈ ts, HtC t) : HtC (.mk k g l ts) := by
  intro v fp w hat hn
  have HIH := hid ih
  clear ih
  obtain ⟨s, rfl, hs⟩ := Co.at_mk.1 hat
  obtain ⟨a, cap, rfl, hc, hm, hget⟩ := hs.open
  have HG := hid hget
  have HN := hid (show ts.length + ccntL ts ≤ 1048576 by simpa only [Co.cnt] using hn)
  clear hget hat hs hn
  go_enter Tryd.func70, Tryd.ntmps70
  go_wp2_with fail
  go_loopw [3, 9] (fun n i wr => ∃ (j : Nat) (c : Int), j ≤ ts.length ∧ i = .int .i64 j ∧ n = .int .i64 c ∧ c = hgtL (ts.take j) ∧ 0 ≤ c ∧ c ≤ 1048577 ∧ Below (w.alloc (Obj.cells #[.int .i64 k, .int .i64 g, .int .i64 l, .slice a ts.length cap] 45)).heap.size (w.alloc (Obj.cells #[.int .i64 k, .int .i64 g, .int .i64 l, .slice a ts.length cap] 45)) wr) (fun _ i _ => ts.length - (intOf i).toNat)
  case atStart => exact ⟨0, 0, Nat.zero_le _, rfl, rfl, by simp [hgtL], by omega, by omega, Below.refl _ _⟩
  case round =>
    obtain ⟨j, c, hj, rfl, rfl, hcc, hc0, hc1, hb⟩ := hrel
    have HC := hid hcc
    clear hcc
    obtain ⟨x0, x1, x2, x3⟩ := box4 hb
    by_cases hlk : j < ts.length
    · obtain ⟨b, o, k1, g1, l1, n1, a1, cap1, f1, rfl, hblt, c0, c1, c2, c3, hat, hf⟩ := HG.out j hlk
      have hbw := alloc1 hb
      have d0 := (hbw.cell (p := ⟨b, o + j * 4, none⟩) hblt).trans c0
      have d1 := (hbw.cell (p := ⟨b, o + j * 4 + 1, none⟩) hblt).trans c1
      have d2 := (hbw.cell (p := ⟨b, o + j * 4 + 2, none⟩) hblt).trans c2
      have d3 := (hbw.cell (p := ⟨b, o + j * 4 + 3, none⟩) hblt).trans c3
      clear c0 c1 c2 c3
      have hbd := hgt_bd ts[j]
      have hle := ccnt_mem (List.getElem_mem hlk)
      have hle2 : ts[j].cnt ≤ 1048576 := by have := HN.out; omega
      have HST := hid (show max c (hgt ts[j]) = hgtL (ts.take (j + 1)) by rw [ctake_succ hlk, hgtL_snoc, ← HC.out])
      clear hle
      go_wp2_with fail
      refine (HIH.out _ (List.getElem_mem hlk) _ _ _ (hat.below ?_) hle2).mono ?_
      · exact hbw.alloc (by have := hbw.size; omega) _
      rintro e w1 ⟨rfl, hb1⟩
      have hbb := hb.trans ((alloc1 hb1).mono hb.size)
      clear hb hb1 hat d0 d1 d2 d3 hbw
      generalize hgt ts[j] = r at *
      by_cases hr : c < r
      · go_wp2_with fail
        go_roundw
        case rel => exact ⟨j + 1, r, by omega, by go_num, by first | rfl | (congr 1; omega), by rw [← HST.out]; omega, by omega, by omega, hbb⟩
        case measure => simp [intOf]; omega
      · go_wp2_with fail
        go_roundw
        case rel => exact ⟨j + 1, c, by omega, by go_num, by first | rfl | (congr 1; omega), by rw [← HST.out]; omega, by omega, by omega, hbb⟩
        case measure => simp [intOf]; omega
    · have hcl : c = hgtL ts := by rw [HC.out, List.take_of_length_le (by omega)]
      have HCL := hid hcl
      have hbb := alloc1 hb
      clear hcl
      by_cases q4 : k = 4
      · subst q4
        have HT := hid (show hgt (.mk 4 g l ts) = hgtL ts by simp [hgt])
        go_wp2_with fail
        go_ret
        exact ⟨ret_i (by rw [HT.out, HCL.out]), hbb⟩
      have q41 : (k == 4) = false := by simpa using q4
      by_cases q5 : k = 5
      · subst q5
        have HT := hid (show hgt (.mk 5 g l ts) = hgtL ts by simp [hgt])
        go_wp2_with fail
        go_ret
        exact ⟨ret_i (by rw [HT.out, HCL.out]), hbb⟩
      have q51 : (k == 5) = false := by simpa using q5
      have HT := hid (show hgt (.mk k g l ts) = hgtL ts + 1 by simp [hgt, q4, q5])
      go_wp2_with fail
      go_ret
      exact ⟨ret_i (by rw [HT.out, HCL.out]), hbb⟩

theorem heightOf_any : ∀ t : Co, HtC t := Co.ind heightOf_of

/-- The document's CoercionHeight. -/
def hgtV (t : Co) : Int := if vldK t then hgt t else 0

end Go.Proofs.YtgekfnodmgkdaaaDoor

/- Counting the unknown parts of a type: the specification's function and the program's. -/
import Derived.Test.YtelbpgdlcnnabaaPkA
namespace Go.Proofs.Ytelbpgdlcnnabaa
open Go.RowKit

def CoC (t : Ty) : Prop := ∀ (v : Value) (fp : List Nat) (w : World), t.At w v fp → t.cnt ≤ 1048576 →
  Calls Try.prog 78 #[v] w fun e w' => e = .returned (.int .i64 (cntAny t)) ∧ Below w.heap.size w w'

set_option maxHeartbeats 400000 in
theorem l1Count_of (k : Int) (ts : List Ty) (ih : ∀ t ∈ ts, CoC t) : CoC (.mk k ts) := by
  intro v fp w hat hn
  have HIH := hid ih
  clear ih
  obtain ⟨s, rfl, hs⟩ := Ty.at_mk.1 hat
  obtain ⟨a, cap, rfl, hc, hm, hget⟩ := hs.openA
  have HG := hid hget
  have HN := hid (show ts.length + cntL ts ≤ 1048576 by simpa only [Ty.cnt] using hn)
  clear hget hat hs hn
  by_cases hk : k = 1
  · subst hk
    go_enter Try.func78, Try.ntmps78
    go_wp2_with fail
    go_ret
    exact ⟨ret_i (by simp [cntAny]), (Below.refl _ _).alloc (Nat.le_refl _) _⟩
  · have HT := hid (show cntAny (.mk k ts) = cntAnyL ts by simp [cntAny, hk])
    have hk1 : (k == 1) = false := by simpa using hk
    clear hk
    go_enter Try.func78, Try.ntmps78
    go_wp2_with fail
    go_loopw [3, 4] (fun n i wr => ∃ (j : Nat) (c : Int), j ≤ ts.length ∧ i = .int .i64 j ∧ n = .int .i64 c ∧ c = cntAnyL (ts.take j) ∧ 0 ≤ c ∧ c ≤ 1048576 ∧ Below (w.alloc (Obj.cells #[.int .i64 k, .slice a ts.length cap] 25)).heap.size (w.alloc (Obj.cells #[.int .i64 k, .slice a ts.length cap] 25)) wr) (fun _ i _ => ts.length - (intOf i).toNat)
    case atStart => exact ⟨0, 0, Nat.zero_le _, rfl, rfl, by simp [cntAnyL], by omega, by omega, Below.refl _ _⟩
    case round =>
      obtain ⟨j, c, hj, rfl, rfl, hcc, hc0, hc1, hb⟩ := hrel
      have HC := hid hcc
      clear hcc
      obtain ⟨x0, x1⟩ := box_cells hb
      by_cases hlk : j < ts.length
      · obtain ⟨b, o, k1, n1, a1, cap1, f1, rfl, hblt, c0, c1, hat, hf⟩ := HG.out j hlk
        have hbw := alloc1 hb
        have d0 := (hbw.cell (p := ⟨b, o + j * 2, none⟩) hblt).trans c0
        have d1 := (hbw.cell (p := ⟨b, o + j * 2 + 1, none⟩) hblt).trans c1
        clear c0 c1
        have hbd := cntAny_bd ts[j]
        have hbd2 := cntAnyL_bd (ts.take (j + 1))
        have hbd3 := cntL_take ts (j + 1)
        rw [take_succ hlk, cntAnyL_snoc, ← HC.out, ← take_succ hlk, List.length_take] at hbd2
        have hsum : 0 ≤ c + cntAny ts[j] ∧ c + cntAny ts[j] ≤ 1048576 := by have := HN.out; omega
        have HST := hid (show c + cntAny ts[j] = cntAnyL (ts.take (j + 1)) by rw [take_succ hlk, cntAnyL_snoc, ← HC.out])
        have hle := cnt_mem (List.getElem_mem hlk)
        have hle2 : ts[j].cnt ≤ 1048576 := by have := HN.out; omega
        clear hbd2 hbd3 hle
        go_wp2_with fail
        refine (HIH.out _ (List.getElem_mem hlk) _ _ _ (hat.below ?_) hle2).mono ?_
        · exact hbw
        rintro e w1 ⟨rfl, hb1⟩
        have hbb := hb.trans (hb1.mono hb.size)
        clear hb hb1 hat d0 d1 hbw
        generalize cntAny ts[j] = r at *
        go_wp2_with fail
        go_roundw
        case rel => exact ⟨j + 1, c + r, by omega, by go_num, rfl, HST.out, by omega, by omega, hbb⟩
        case measure => simp [intOf]; omega
      · go_wp2_with fail
        go_ret
        exact ⟨ret_i (by rw [HT.out, HC.out, List.take_of_length_le (by omega)]), alloc1 hb⟩

theorem l1Count_any : ∀ t : Ty, CoC t := Ty.ind l1Count_of

def CuC (t : Ty) : Prop := ∀ (v : Value) (fp : List Nat) (w : World), t.At w v fp → t.cnt ≤ 1048576 →
  Calls Try.prog 77 #[v] w fun e w' => e = .returned (.int .i64 (cntAny t)) ∧ Below w.heap.size w w'

set_option maxHeartbeats 400000 in
theorem countUnknown_of (k : Int) (ts : List Ty) (ih : ∀ t ∈ ts, CuC t) : CuC (.mk k ts) := by
  intro v fp w hat hn
  have HIH := hid ih
  clear ih
  obtain ⟨s, rfl, hs⟩ := Ty.at_mk.1 hat
  obtain ⟨a, cap, rfl, hc, hm, hget⟩ := hs.openA
  have HG := hid hget
  have HN := hid (show ts.length + cntL ts ≤ 1048576 by simpa only [Ty.cnt] using hn)
  clear hget hat hs hn
  by_cases hk : k = 1
  · subst hk
    go_enter Try.func77, Try.ntmps77
    go_wp2_with fail
    go_ret
    exact ⟨ret_i (by simp [cntAny]), (Below.refl _ _).alloc (Nat.le_refl _) _⟩
  · have HT := hid (show cntAny (.mk k ts) = cntAnyL ts by simp [cntAny, hk])
    have hk1 : (k == 1) = false := by simpa using hk
    clear hk
    go_enter Try.func77, Try.ntmps77
    go_wp2_with fail
    go_loopw [3, 12] (fun n i wr => ∃ (j : Nat) (c : Int), j ≤ ts.length ∧ i = .int .i64 j ∧ n = .int .i64 c ∧ c = cntAnyL (ts.take j) ∧ 0 ≤ c ∧ c ≤ 1048576 ∧ Below (w.alloc (Obj.cells #[.int .i64 k, .slice a ts.length cap] 25)).heap.size (w.alloc (Obj.cells #[.int .i64 k, .slice a ts.length cap] 25)) wr) (fun _ i _ => ts.length - (intOf i).toNat)
    case atStart => exact ⟨0, 0, Nat.zero_le _, rfl, rfl, by simp [cntAnyL], by omega, by omega, Below.refl _ _⟩
    case round =>
      obtain ⟨j, c, hj, rfl, rfl, hcc, hc0, hc1, hb⟩ := hrel
      have HC := hid hcc
      clear hcc
      by_cases hlk : j < ts.length
      · obtain ⟨b, o, k1, n1, a1, cap1, f1, rfl, hblt, c0, c1, hat, hf⟩ := HG.out j hlk
        have hbw := alloc1 hb
        have d0 := (hbw.cell (p := ⟨b, o + j * 2, none⟩) hblt).trans c0
        have d1 := (hbw.cell (p := ⟨b, o + j * 2 + 1, none⟩) hblt).trans c1
        clear c0 c1
        have hbd := cntAny_bd ts[j]
        have hbd2 := cntAnyL_bd (ts.take (j + 1))
        have hbd3 := cntL_take ts (j + 1)
        rw [take_succ hlk, cntAnyL_snoc, ← HC.out, ← take_succ hlk, List.length_take] at hbd2
        have hsum : 0 ≤ c + cntAny ts[j] ∧ c + cntAny ts[j] ≤ 1048576 := by have := HN.out; omega
        have HST := hid (show c + cntAny ts[j] = cntAnyL (ts.take (j + 1)) by rw [take_succ hlk, cntAnyL_snoc, ← HC.out])
        have hle := cnt_mem (List.getElem_mem hlk)
        have hle2 : ts[j].cnt ≤ 1048576 := by have := HN.out; omega
        clear hbd2 hbd3 hle
        go_wp2_with fail
        refine (HIH.out _ (List.getElem_mem hlk) _ _ _ (hat.below ?_) hle2).mono ?_
        · exact hbw.alloc (by have := hbw.size; omega) _
        rintro e w1 ⟨rfl, hb1⟩
        have hbb := hb.trans ((alloc1 hb1).mono hb.size)
        clear hb hb1 hat d0 d1 hbw
        generalize cntAny ts[j] = r at *
        go_wp2_with fail
        go_roundw
        case rel => exact ⟨j + 1, c + r, by omega, by go_num, rfl, HST.out, by omega, by omega, hbb⟩
        case measure => simp [intOf]; omega
      · go_wp2_with fail
        go_ret
        exact ⟨ret_i (by rw [HT.out, HC.out, List.take_of_length_le (by omega)]), alloc1 hb⟩

theorem countUnknown_any : ∀ t : Ty, CuC t := Ty.ind countUnknown_of

end Go.Proofs.Ytelbpgdlcnnabaa

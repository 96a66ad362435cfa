/- Counting the known parts of a type: the specification's function and the program's. -/
import Derived.Test.YtppjeeklckdlgaaDoorPkA
namespace Go.Proofs.YtppjeeklckdlgaaDoor
open Go.RowKit

mutual
/-- The nodes that are not the unknown type. -/
def knT : Ty → Int
  | .mk k ts => if k = 1 then 0 else 1 + knL ts
def knL : List Ty → Int
  | [] => 0
  | t :: ts => knT t + knL ts
end

mutual
theorem kn_bd : ∀ t : Ty, 0 ≤ knT t ∧ knT t ≤ t.cnt + 1
  | .mk k ts => by
    have h := knL_bd ts
    simp only [knT, Ty.cnt]
    split <;> omega
theorem knL_bd : ∀ ts : List Ty, 0 ≤ knL ts ∧ knL ts ≤ cntL ts + ts.length
  | [] => by simp [knL, cntL]
  | t :: ts => by
    have h1 := kn_bd t
    have h2 := knL_bd ts
    simp only [knL, cntL, List.length_cons]
    omega
end

theorem knL_snoc : ∀ (ts : List Ty) (t : Ty), knL (ts ++ [t]) = knL ts + knT t
  | [], t => by simp [knL]
  | u :: ts, t => by simp only [List.cons_append, knL, knL_snoc ts t]; omega

def KoC (t : Ty) : Prop := ∀ (v : Value) (fp : List Nat) (w : World), t.At w v fp → t.cnt ≤ 1048576 →
  Calls Tryd.prog 45 #[v] w fun e w' => e = .returned (.int .i64 (knT t)) ∧ Below w.heap.size w w'

set_option maxHeartbeats 400000 in
theorem l10Weight_of (k : Int) (ts : List Ty) (ih : ∀ t ∈ ts, KoC t) : KoC (.mk k ts) := by
  intro v fp w hat hn
  have HIH := hid ih
  clear ih
  obtain ⟨s, rfl, hs⟩ := Ty.at_mk.1 hat
  obtain ⟨a, cap, rfl, hc, hm, hget⟩ := hs.openA
  have HG := hid hget
  have HN := hid (show ts.length + cntL ts ≤ 1048576 by simpa only [Ty.cnt] using hn)
  clear hget hat hs hn
  by_cases hk : k = 1
  · subst hk
    go_enter Tryd.func45, Tryd.ntmps45
    go_wp2_with fail
    go_ret
    exact ⟨ret_i (by simp [knT]), (Below.refl _ _).alloc (Nat.le_refl _) _⟩
  · have HT := hid (show knT (.mk k ts) = 1 + knL ts by simp [knT, hk])
    have hk1 : (k == 1) = false := by simpa using hk
    clear hk
    go_enter Tryd.func45, Tryd.ntmps45
    go_wp2_with fail
    go_loopw [3, 4] (fun n i wr => ∃ (j : Nat) (c : Int), j ≤ ts.length ∧ i = .int .i64 j ∧ n = .int .i64 c ∧ c = 1 + knL (ts.take j) ∧ 0 ≤ c ∧ c ≤ 1048577 ∧ Below (w.alloc (Obj.cells #[.int .i64 k, .slice a ts.length cap] 32)).heap.size (w.alloc (Obj.cells #[.int .i64 k, .slice a ts.length cap] 32)) wr) (fun _ i _ => ts.length - (intOf i).toNat)
    case atStart => exact ⟨0, 1, Nat.zero_le _, rfl, rfl, by simp [knL], by omega, by omega, Below.refl _ _⟩
    case round =>
      obtain ⟨j, c, hj, rfl, rfl, hcc, hc0, hc1, hb⟩ := hrel
      have HC := hid hcc
      clear hcc
      obtain ⟨x0, x1⟩ := box_cells hb
      by_cases hlk : j < ts.length
      · obtain ⟨b, o, k1, n1, a1, cap1, f1, rfl, hblt, c0, c1, hat, hf⟩ := HG.out j hlk
        have hbw := alloc1 hb
        have d0 := (hbw.cell (p := ⟨b, o + j * 2, none⟩) hblt).trans c0
        have d1 := (hbw.cell (p := ⟨b, o + j * 2 + 1, none⟩) hblt).trans c1
        clear c0 c1
        have hbd := kn_bd ts[j]
        have hbd2 := knL_bd (ts.take (j + 1))
        have hbd3 := cntL_take ts (j + 1)
        have hsn : knL (ts.take (j + 1)) = knL (ts.take j) + knT ts[j] := by rw [take_succ hlk, knL_snoc]
        rw [List.length_take] at hbd2
        have hsum : 0 ≤ c + knT ts[j] ∧ c + knT ts[j] ≤ 1048577 := by have := HN.out; have := HC.out; omega
        have HST := hid (show c + knT ts[j] = 1 + knL (ts.take (j + 1)) by rw [hsn, HC.out]; omega)
        have hle := cnt_mem (List.getElem_mem hlk)
        have hle2 : ts[j].cnt ≤ 1048576 := by have := HN.out; omega
        clear hbd2 hbd3 hle hsn
        go_wp2_with fail
        refine (HIH.out _ (List.getElem_mem hlk) _ _ _ (hat.below ?_) hle2).mono ?_
        · exact hbw
        rintro e w1 ⟨rfl, hb1⟩
        have hbb := hb.trans (hb1.mono hb.size)
        clear hb hb1 hat d0 d1 hbw
        generalize knT ts[j] = r at *
        go_wp2_with fail
        go_roundw
        case rel => exact ⟨j + 1, c + r, by omega, by go_num, rfl, HST.out, by omega, by omega, hbb⟩
        case measure => simp [intOf]; omega
      · go_wp2_with fail
        go_ret
        exact ⟨ret_i (by rw [HT.out, HC.out, List.take_of_length_le (by omega)]), alloc1 hb⟩

theorem l10Weight_any : ∀ t : Ty, KoC t := Ty.ind l10Weight_of

def KuC (t : Ty) : Prop := ∀ (v : Value) (fp : List Nat) (w : World), t.At w v fp → t.cnt ≤ 1048576 →
  Calls Tryd.prog 46 #[v] w fun e w' => e = .returned (.int .i64 (knT t)) ∧ Below w.heap.size w w'

set_option maxHeartbeats 400000 in
theorem countKnown_of (k : Int) (ts : List Ty) (ih : ∀ t ∈ ts, KuC t) : KuC (.mk k ts) := by
  intro v fp w hat hn
  have HIH := hid ih
  clear ih
  obtain ⟨s, rfl, hs⟩ := Ty.at_mk.1 hat
  obtain ⟨a, cap, rfl, hc, hm, hget⟩ := hs.openA
  have HG := hid hget
  have HN := hid (show ts.length + cntL ts ≤ 1048576 by simpa only [Ty.cnt] using hn)
  clear hget hat hs hn
  by_cases hk : k = 1
  · subst hk
    go_enter Tryd.func46, Tryd.ntmps46
    go_wp2_with fail
    go_ret
    exact ⟨ret_i (by simp [knT]), (Below.refl _ _).alloc (Nat.le_refl _) _⟩
  · have HT := hid (show knT (.mk k ts) = 1 + knL ts by simp [knT, hk])
    have hk1 : (k == 1) = false := by simpa using hk
    clear hk
    go_enter Tryd.func46, Tryd.ntmps46
    go_wp2_with fail
    go_loopw [3, 12] (fun n i wr => ∃ (j : Nat) (c : Int), j ≤ ts.length ∧ i = .int .i64 j ∧ n = .int .i64 c ∧ c = 1 + knL (ts.take j) ∧ 0 ≤ c ∧ c ≤ 1048577 ∧ Below (w.alloc (Obj.cells #[.int .i64 k, .slice a ts.length cap] 32)).heap.size (w.alloc (Obj.cells #[.int .i64 k, .slice a ts.length cap] 32)) wr) (fun _ i _ => ts.length - (intOf i).toNat)
    case atStart => exact ⟨0, 1, Nat.zero_le _, rfl, rfl, by simp [knL], by omega, by omega, Below.refl _ _⟩
    case round =>
      obtain ⟨j, c, hj, rfl, rfl, hcc, hc0, hc1, hb⟩ := hrel
      have HC := hid hcc
      clear hcc
      by_cases hlk : j < ts.length
      · obtain ⟨b, o, k1, n1, a1, cap1, f1, rfl, hblt, c0, c1, hat, hf⟩ := HG.out j hlk
        have hbw := alloc1 hb
        have d0 := (hbw.cell (p := ⟨b, o + j * 2, none⟩) hblt).trans c0
        have d1 := (hbw.cell (p := ⟨b, o + j * 2 + 1, none⟩) hblt).trans c1
        clear c0 c1
        have hbd := kn_bd ts[j]
        have hbd2 := knL_bd (ts.take (j + 1))
        have hbd3 := cntL_take ts (j + 1)
        have hsn : knL (ts.take (j + 1)) = knL (ts.take j) + knT ts[j] := by rw [take_succ hlk, knL_snoc]
        rw [List.length_take] at hbd2
        have hsum : 0 ≤ c + knT ts[j] ∧ c + knT ts[j] ≤ 1048577 := by have := HN.out; have := HC.out; omega
        have HST := hid (show c + knT ts[j] = 1 + knL (ts.take (j + 1)) by rw [hsn, HC.out]; omega)
        have hle := cnt_mem (List.getElem_mem hlk)
        have hle2 : ts[j].cnt ≤ 1048576 := by have := HN.out; omega
        clear hbd2 hbd3 hle hsn
        go_wp2_with fail
        refine (HIH.out _ (List.getElem_mem hlk) _ _ _ (hat.below ?_) hle2).mono ?_
        · exact hbw.alloc (by have := hbw.size; omega) _
        rintro e w1 ⟨rfl, hb1⟩
        have hbb := hb.trans ((alloc1 hb1).mono hb.size)
        clear hb hb1 hat d0 d1 hbw
        generalize knT ts[j] = r at *
        go_wp2_with fail
        go_roundw
        case rel => exact ⟨j + 1, c + r, by omega, by go_num, rfl, HST.out, by omega, by omega, hbb⟩
        case measure => simp [intOf]; omega
      · go_wp2_with fail
        go_ret
        exact ⟨ret_i (by rw [HT.out, HC.out, List.take_of_length_le (by omega)]), alloc1 hb⟩

theorem countKnown_any : ∀ t : Ty, KuC t := Ty.ind countKnown_of

end Go.Proofs.YtppjeeklckdlgaaDoor

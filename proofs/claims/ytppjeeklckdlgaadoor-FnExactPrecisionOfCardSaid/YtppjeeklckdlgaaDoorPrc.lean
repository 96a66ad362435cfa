/- PrecisionOf, of the specification and of the program. -/
import Derived.Test.YtppjeeklckdlgaaDoorTysS
import Derived.Test.YtppjeeklckdlgaaDoorTysT
import Derived.Test.YtppjeeklckdlgaaDoorKn
namespace Go.Proofs.YtppjeeklckdlgaaDoor
open Go.RowKit

mutual
theorem tys_cnt8 : ∀ t : Tm, (tysOf t).length + cntL (tysOf t) ≤ t.sz + 1
  | .mk k nm num ty fr lb ts => by
    have := tysL_cnt8 ts
    simp only [tysOf, List.length_append, cntL_append, Tm.sz]
    split <;> simp only [List.length_cons, List.length_nil, cntL] <;> omega
theorem tysL_cnt8 : ∀ ts : List Tm, (tysL ts).length + cntL (tysL ts) ≤ ts.length + szML ts
  | [] => by simp [tysL, cntL]
  | t :: ts => by
    have h1 := tys_cnt8 t
    have h2 := tysL_cnt8 ts
    simp only [tysL, List.length_append, cntL_append, List.length_cons, szML]
    omega
end

theorem tyLst_cnt8 (t : Tm) : (tyLst t).length + cntL (tyLst t) ≤ t.sz + 1 := by
  have := tys_cnt8 t
  simp only [tyLst]
  split
  · exact this
  · simp [cntL]

/-- The precision of a term. -/
def prcM (t : Tm) : Int := knL (tyLst t)

theorem knL_step {L : List Ty} {j : Nat} (h : j < L.length) : knL (L.take (j + 1)) = knL (L.take j) + knT L[j] := by rw [take_succ h, knL_snoc]

set_option maxHeartbeats 1000000 in
theorem specPrecisionOf (t : Tm) (v : Value) (fp : List Nat) (w : World) (hsz : t.sz ≤ 1048576) (hat : t.At w v fp) :
    Calls Tryd.prog 14 #[v] w fun e w' => e = .returned (.int .i64 (prcM t)) ∧ Below w.heap.size w w' := by
  have hat0 := hat
  obtain ⟨k, nm, num, k1, n1, a1, c1, k2, n2, a2, c2, lb, n3, a3, c3, rfl⟩ := hat.agg
  have hb0 : Below w.heap.size w (w.alloc (Obj.cells #[.int .i64 k, .string nm, .int .i64 num, .int .i64 k1, .slice a1 n1 c1, .int .i64 k2, .slice a2 n2 c2, .int .i64 lb, .slice a3 n3 c3] 35)) := (Below.refl _ _).alloc (Nat.le_refl _) _
  have HL := hid (specTermTypes t _ _ _ hsz (hat0.below hb0))
  have HB := hid (tyLst_cnt8 t)
  have HP := hid (show prcM t = knL (tyLst t) from rfl)
  have HSZ := hid hsz
  generalize tyLst t = L at *
  clear hat hat0 hsz
  go_enter Tryd.func14, Tryd.ntmps14
  go_wp2_with fail
  refine HL.out.mono ?_
  rintro e w1 ⟨s, f, rfl, hs, hf, hb1⟩
  have b1 := below_trans hb0 hb1
  obtain ⟨la, lcap, rfl, hlc, hlm, hget⟩ := hs.openA
  have HG := hid hget
  clear hget hs hf hb1 hb0
  go_wp2_with fail
  go_loopw [3, 5] (fun n i wr => ∃ (j : Nat) (c : Int), j ≤ L.length ∧ i = .int .i64 j ∧ n = .int .i64 c ∧ c = knL (L.take j) ∧ Below w1.heap.size w1 wr) (fun _ i _ => L.length - (intOf i).toNat)
  case atStart => exact ⟨0, 0, Nat.zero_le _, rfl, rfl, by simp [knL], Below.refl _ _⟩
  case round =>
    obtain ⟨j, c, hj, rfl, rfl, hcc, hb⟩ := hrel
    have HC := hid hcc
    clear hcc
    by_cases hlk : j < L.length
    · obtain ⟨b, o, kk, nn, aa, cc, g, rfl, hblt, d0, d1, hatu, -⟩ := HG.out j hlk
      replace d0 := cell_keep d0 hb
      replace d1 := cell_keep d1 hb
      have hs1 := knL_step hlk
      have hbd := kn_bd L[j]
      have hbd2 := knL_bd (L.take (j + 1))
      have hbd0 := knL_bd (L.take j)
      have hbd3 := cntL_take L (j + 1)
      have hbd4 := cntL_take L j
      rw [List.length_take] at hbd2 hbd0
      have hsum : 0 ≤ c + knT L[j] ∧ c + knT L[j] ≤ 1048577 := by have := HB.out; have := HC.out; have := HSZ.out; omega
      have hc0 : 0 ≤ c ∧ c ≤ 1048577 := by have := HB.out; have := HC.out; have := HSZ.out; omega
      have HST := hid (show c + knT L[j] = knL (L.take (j + 1)) by rw [hs1, HC.out])
      have hcn : L[j].cnt ≤ 1048577 := by have := cnt_mem (List.getElem_mem hlk); have := HB.out; have := HSZ.out; omega
      clear hs1 hbd2 hbd0 hbd3 hbd4
      go_wp2_with fail
      refine (l10Weight_any L[j] _ _ _ (hatu.below hb) (by have := cnt_mem (List.getElem_mem hlk); have := HB.out; have := HSZ.out; have : L.length ≠ 0 := (by omega); omega)).mono ?_
      rintro e w3 ⟨rfl, hb2⟩
      have hbb := below_trans hb hb2
      clear hb hb2 hatu d0 d1
      generalize knT L[j] = r at *
      go_wp2_with fail
      go_roundw
      case rel => exact ⟨j + 1, c + r, by omega, by go_num, rfl, HST.out, hbb⟩
      case measure => simp [intOf]; omega
    · have HR := hid (show prcM t = c by
        have := HC.out
        rw [List.take_of_length_le (by omega)] at this
        rw [HP.out, this])
      go_wp2_with fail
      go_ret
      exact ⟨ret_i HR.out.symm, below_trans b1 hb⟩

set_option maxHeartbeats 1000000 in
theorem implPrecisionOf (t : Tm) (v : Value) (fp : List Nat) (w : World) (hsz : t.sz ≤ 1048576) (hF : Forms w) (hat : t.At w v fp) :
    Calls Tryd.prog 15 #[v] w fun e w' => e = .returned (.int .i64 (prcM t)) ∧ Below w.heap.size w w' := by
  have hat0 := hat
  obtain ⟨k, nm, num, k1, n1, a1, c1, k2, n2, a2, c2, lb, n3, a3, c3, rfl⟩ := hat.agg
  have hb0 : Below w.heap.size w (w.alloc (Obj.cells #[.int .i64 k, .string nm, .int .i64 num, .int .i64 k1, .slice a1 n1 c1, .int .i64 k2, .slice a2 n2 c2, .int .i64 lb, .slice a3 n3 c3] 35)) := (Below.refl _ _).alloc (Nat.le_refl _) _
  have HL := hid (implTermTypes t _ _ _ hsz (hF.below hb0) (hat0.below hb0))
  have HB := hid (tyLst_cnt8 t)
  have HP := hid (show prcM t = knL (tyLst t) from rfl)
  have HSZ := hid hsz
  generalize tyLst t = L at *
  clear hat hat0 hF hsz
  go_enter Tryd.func15, Tryd.ntmps15
  go_wp2_with fail
  refine HL.out.mono ?_
  rintro e w1 ⟨s, f, rfl, hs, hf, hb1⟩
  have b1 := below_trans hb0 hb1
  obtain ⟨la, lcap, rfl, hlc, hlm, hget⟩ := hs.openA
  have HG := hid hget
  clear hget hs hf hb1 hb0
  go_wp2_with fail
  go_loopw [3, 9] (fun n i wr => ∃ (j : Nat) (c : Int), j ≤ L.length ∧ i = .int .i64 j ∧ n = .int .i64 c ∧ c = knL (L.take j) ∧ Below w1.heap.size w1 wr) (fun _ i _ => L.length - (intOf i).toNat)
  case atStart => exact ⟨0, 0, Nat.zero_le _, rfl, rfl, by simp [knL], Below.refl _ _⟩
  case round =>
    obtain ⟨j, c, hj, rfl, rfl, hcc, hb⟩ := hrel
    have HC := hid hcc
    clear hcc
    by_cases hlk : j < L.length
    · obtain ⟨b, o, kk, nn, aa, cc, g, rfl, hblt, d0, d1, hatu, -⟩ := HG.out j hlk
      replace d0 := cell_keep d0 hb
      replace d1 := cell_keep d1 hb
      have hs1 := knL_step hlk
      have hbd := kn_bd L[j]
      have hbd2 := knL_bd (L.take (j + 1))
      have hbd0 := knL_bd (L.take j)
      have hbd3 := cntL_take L (j + 1)
      have hbd4 := cntL_take L j
      rw [List.length_take] at hbd2 hbd0
      have hsum : 0 ≤ c + knT L[j] ∧ c + knT L[j] ≤ 1048577 := by have := HB.out; have := HC.out; have := HSZ.out; omega
      have hc0 : 0 ≤ c ∧ c ≤ 1048577 := by have := HB.out; have := HC.out; have := HSZ.out; omega
      have HST := hid (show c + knT L[j] = knL (L.take (j + 1)) by rw [hs1, HC.out])
      have hcn : L[j].cnt ≤ 1048577 := by have := cnt_mem (List.getElem_mem hlk); have := HB.out; have := HSZ.out; omega
      have hal : Below wr.heap.size wr (wr.alloc (Obj.cells #[.int .i64 kk, .slice aa nn cc] 32)) := (Below.refl _ _).alloc (Nat.le_refl _) _
      have hba := below_trans hb hal
      clear hs1 hbd2 hbd0 hbd3 hbd4
      go_wp2_with fail
      refine (countKnown_any L[j] _ _ _ (hatu.below hba) (by have := cnt_mem (List.getElem_mem hlk); have := HB.out; have := HSZ.out; have : L.length ≠ 0 := (by omega); omega)).mono ?_
      rintro e w3 ⟨rfl, hb2⟩
      have hbb := below_trans hba hb2
      clear hb hb2 hatu d0 d1
      generalize knT L[j] = r at *
      go_wp2_with fail
      go_roundw
      case rel => exact ⟨j + 1, c + r, by omega, by go_num, rfl, HST.out, hbb⟩
      case measure => simp [intOf]; omega
    · have HR := hid (show prcM t = c by
        have := HC.out
        rw [List.take_of_length_le (by omega)] at this
        rw [HP.out, this])
      go_wp2_with fail
      go_ret
      exact ⟨ret_i HR.out.symm, below_trans b1 hb⟩
end Go.Proofs.YtppjeeklckdlgaaDoor

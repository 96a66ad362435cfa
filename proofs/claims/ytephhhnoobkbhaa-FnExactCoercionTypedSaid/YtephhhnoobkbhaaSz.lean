/- The laws' own helper szType: the number of nodes that may still come. -/
import Derived.Test.YtephhhnoobkbhaaTy
import Derived.LoopTactic
namespace Go.Proofs.Ytephhhnoobkbhaa
open Go.RowKit

mutual
def szT : Ty → Int → Int
  | .mk _ ts, left => if left - (ts.length : Int) < 0 then -1 else szL ts (left - (ts.length : Int))
def szL : List Ty → Int → Int
  | [], left => left
  | t :: ts, left => if szT t left < 0 then -1 else szL ts (szT t left)
end

/-- What a contract says of the helper's call on a tree. -/
def SzC (t : Ty) : Prop := ∀ (v : Value) (fp : List Nat) (left : Int) (w : World), 0 ≤ left → left ≤ 1048576 → t.At w v fp →
  Calls Try.prog 14 #[v, .int .i64 left] w fun e w' => e = .returned (.int .i64 (szT t left)) ∧ Below w.heap.size w w'

def SzSC (ts : List Ty) : Prop := ∀ (s : Value) (fp : List Nat) (left : Int) (w : World), 0 ≤ left → left ≤ 1048576 → SlAt w ts s fp →
  Calls Try.prog 52 #[s, .int .i64 left] w fun e w' => e = .returned (.int .i64 (szT (.mk 0 ts) left)) ∧ Below w.heap.size w w'

mutual
theorem szT_le : ∀ (t : Ty) (left : Int), -1 ≤ left → -1 ≤ szT t left ∧ szT t left ≤ left
  | .mk _ ts, left, h => by
    simp only [szT]
    split
    · omega
    · have := szL_le ts (left - (ts.length : Int)) (by omega)
      omega
theorem szL_le : ∀ (ts : List Ty) (left : Int), -1 ≤ left → -1 ≤ szL ts left ∧ szL ts left ≤ left
  | [], left, h => by simp only [szL]; omega
  | t :: ts, left, h => by
    have h1 := szT_le t left h
    simp only [szL]
    split
    · omega
    · have := szL_le ts (szT t left) (by omega)
      omega
end

set_option maxHeartbeats 400000 in
theorem szType_of (k : Int) (ts : List Ty) (ih : SzSC ts) : SzC (.mk k ts) := by
  intro v fp left w h0 h1 hat
  obtain ⟨s, rfl, hs⟩ := Ty.at_mk.1 hat
  have hle := szT_le (.mk 0 ts) left (by omega)
  have HIH := hid ih
  clear ih
  go_enter Try.func14, Try.ntmps14
  go_wp2_with fail
  refine ((HIH.out) s fp left _ h0 h1 (hs.below ?_)).mono ?_
  · exact (Below.refl _ _).alloc (Nat.le_refl _) _
  rintro e w1 ⟨rfl, hb⟩
  generalize hr : szT (.mk 0 ts) left = r at *
  have Hr := hid hr
  clear hr
  go_wp2_with fail
  · go_ret
    exact ⟨ret_i (by rw [show r = -1 by omega] at Hr; exact Hr.out.symm), alloc1 hb⟩
  · go_ret
    exact ⟨ret_i Hr.out.symm, alloc1 hb⟩

theorem szL_step {ts : List Ty} {k : Nat} (h : k < ts.length) (l : Int) : szL (ts.drop k) l = if szT ts[k] l < 0 then -1 else szL (ts.drop (k + 1)) (szT ts[k] l) := by
  rw [List.drop_eq_getElem_cons h, szL]

set_option maxHeartbeats 400000 in
theorem szTypeS_of (ts : List Ty) (ih : ∀ t ∈ ts, SzC t) : SzSC ts := by
  intro s fp left w h0 h1 hs
  have HIH := hid ih
  clear ih
  obtain ⟨a, cap, rfl, hc, hm, hget⟩ := hs.open
  have HG := hid hget
  clear hget hs
  by_cases hlt : left - (ts.length : Int) < 0
  · go_enter Try.func52, Try.ntmps52
    go_wp2_with fail
    go_ret
    exact ⟨ret_i (by simp only [szT, if_pos hlt]), Below.refl _ _⟩
  · have HT := hid (show szT (.mk 0 ts) left = szL ts (left - (ts.length : Int)) by simp only [szT, if_neg hlt])
    go_enter Try.func52, Try.ntmps52
    go_wp2_with fail
    go_loopw [1, 5] (fun l i wr => ∃ (k : Nat) (lv : Int), k ≤ ts.length ∧ i = .int .i64 k ∧ l = .int .i64 lv ∧ 0 ≤ lv ∧ lv ≤ left ∧ szL (ts.drop k) lv = szL ts (left - (ts.length : Int)) ∧ Below w.heap.size w wr)
      (fun _ i _ => ts.length - (intOf i).toNat)
    case atStart => exact ⟨0, _, Nat.zero_le _, rfl, rfl, by omega, by omega, rfl, Below.refl _ _⟩
    case round =>
      obtain ⟨k, lv, hk, rfl, rfl, hlv0, hlv1, hsz, hb⟩ := hrel
      have HSZ := hid hsz
      clear hsz
      by_cases hlk : k < ts.length
      · obtain ⟨b, o, v0, v1, f1, rfl, hblt, c0, c1, hat, hf⟩ := HG.out k hlk
        have d0 := (hb.cell (p := ⟨b, o + k * 2, none⟩) hblt).trans c0
        have d1 := (hb.cell (p := ⟨b, o + k * 2 + 1, none⟩) hblt).trans c1
        clear c0 c1
        have hst := szL_step hlk lv
        have hb0 := szT_le ts[k] lv (by omega)
        generalize hr : szT ts[k] lv = r at hst hb0
        have Hr := hid hr
        have HST := hid hst
        clear hr hst
        go_wp2_with fail
        refine (HIH.out _ (List.getElem_mem hlk) _ _ lv _ hlv0 (by omega) (hat.below hb)).mono ?_
        rintro e w1 ⟨rfl, hb1⟩
        have hbb := below_trans hb hb1
        clear hb hb1 hat d0 d1
        rw [Hr.out]
        by_cases hneg : r < 0
        · go_wp2_with fail
          go_ret
          exact ⟨ret_i (by rw [HT.out, ← HSZ.out, HST.out, if_pos hneg]), hbb⟩
        · go_wp2_with fail
          go_roundw
          case rel => exact ⟨k + 1, r, by omega, by go_num, rfl, by omega, by omega, by rw [← HSZ.out, HST.out, if_neg (by omega)], hbb⟩
          case measure => simp [intOf]; omega
      · go_wp2_with fail
        go_ret
        have hk' : k = ts.length := by omega
        exact ⟨ret_i (by rw [HT.out, ← HSZ.out, hk', List.drop_length]; simp only [szL]), hb⟩

/-- The helper's contracts, for every tree. -/
theorem szType_any : ∀ t : Ty, SzC t := Ty.ind fun k ts ih => szType_of k ts (szTypeS_of ts ih)

mutual
theorem szT_eq : ∀ (t : Ty) (left : Int), 0 ≤ left → ((t.cnt : Int) ≤ left → szT t left = left - t.cnt) ∧ (left < (t.cnt : Int) → szT t left = -1)
  | .mk k ts, left, h => by
    have e : (Ty.mk k ts).cnt = ts.length + cntL ts := by simp only [Ty.cnt]
    simp only [szT]
    rw [e]
    split
    · exact ⟨fun _ => by omega, fun _ => rfl⟩
    · have := szL_eq ts (left - (ts.length : Int)) (by omega)
      exact ⟨fun _ => by rw [this.1 (by omega)]; omega, fun _ => this.2 (by omega)⟩
theorem szL_eq : ∀ (ts : List Ty) (left : Int), 0 ≤ left → ((cntL ts : Int) ≤ left → szL ts left = left - cntL ts) ∧ (left < (cntL ts : Int) → szL ts left = -1)
  | [], left, h => ⟨fun _ => by simp only [szL, cntL]; omega, fun h' => by simp only [cntL] at h'; omega⟩
  | t :: ts, left, h => by
    have h1 := szT_eq t left h
    have e : cntL (t :: ts) = t.cnt + cntL ts := by simp only [cntL]
    simp only [szL]
    rw [e]
    by_cases hc : (t.cnt : Int) ≤ left
    · have := szL_eq ts (left - t.cnt) (by omega)
      rw [h1.1 hc, if_neg (by omega)]
      exact ⟨fun _ => by rw [this.1 (by omega)]; omega, fun _ => this.2 (by omega)⟩
    · rw [h1.2 (by omega), if_pos (by omega)]
      exact ⟨fun _ => by omega, fun _ => rfl⟩
end

/-- The helper's contract by the number of nodes. -/
theorem szType_some (t : Ty) (v : Value) (fp : List Nat) (left : Int) (w : World) (h0 : 0 ≤ left) (h1 : left ≤ 1048576) (hat : t.At w v fp) (hc : (t.cnt : Int) ≤ left) :
    Calls Try.prog 14 #[v, .int .i64 left] w fun e w' => e = .returned (.int .i64 (left - t.cnt)) ∧ Below w.heap.size w w' :=
  (szType_any t v fp left w h0 h1 hat).mono fun _ _ ⟨he, hb⟩ => ⟨by rw [he, (szT_eq t left h0).1 hc], hb⟩

theorem szType_none (t : Ty) (v : Value) (fp : List Nat) (left : Int) (w : World) (h0 : 0 ≤ left) (h1 : left ≤ 1048576) (hat : t.At w v fp) (hc : ¬ (t.cnt : Int) ≤ left) :
    Calls Try.prog 14 #[v, .int .i64 left] w fun e w' => e = .returned (.int .i64 (-1)) ∧ Below w.heap.size w w' :=
  (szType_any t v fp left w h0 h1 hat).mono fun _ _ ⟨he, hb⟩ => ⟨by rw [he, (szT_eq t left h0).2 (by omega)], hb⟩

end Go.Proofs.Ytephhhnoobkbhaa

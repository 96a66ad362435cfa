/- The laws' own helper szCoercion: the number of nodes that may still come. -/
import Derived.Test.YtgiimijooabioaaCo
import Derived.LoopTactic
namespace Go.Proofs.Ytgiimijooabioaa
open Go.RowKit

mutual
def szC : Co → Int → Int
  | .mk _ _ _ ts, left => if left - (ts.length : Int) < 0 then -1 else szCL ts (left - (ts.length : Int))
def szCL : List Co → Int → Int
  | [], left => left
  | t :: ts, left => if szC t left < 0 then -1 else szCL ts (szC t left)
end

/-- What a contract says of the helper's call on a tree. -/
def SzzC (t : Co) : Prop := ∀ (v : Value) (fp : List Nat) (left : Int) (w : World), 0 ≤ left → left ≤ 1048576 → t.At w v fp →
  Calls Try.prog 16 #[v, .int .i64 left] w fun e w' => e = .returned (.int .i64 (szC t left)) ∧ Below w.heap.size w w'

def SzzSC (ts : List Co) : Prop := ∀ (s : Value) (fp : List Nat) (left : Int) (w : World), 0 ≤ left → left ≤ 1048576 → CSl w ts s fp →
  Calls Try.prog 33 #[s, .int .i64 left] w fun e w' => e = .returned (.int .i64 (szC (.mk 0 0 0 ts) left)) ∧ Below w.heap.size w w'

mutual
theorem szC_le : ∀ (t : Co) (left : Int), -1 ≤ left → -1 ≤ szC t left ∧ szC t left ≤ left
  | .mk _ _ _ ts, left, h => by
    simp only [szC]
    split
    · omega
    · have := szCL_le ts (left - (ts.length : Int)) (by omega)
      omega
theorem szCL_le : ∀ (ts : List Co) (left : Int), -1 ≤ left → -1 ≤ szCL ts left ∧ szCL ts left ≤ left
  | [], left, h => by simp only [szCL]; omega
  | t :: ts, left, h => by
    have h1 := szC_le t left h
    simp only [szCL]
    split
    · omega
    · have := szCL_le ts (szC t left) (by omega)
      omega
end

set_option maxHeartbeats 400000 in
theorem szCoer_of (k g l : Int) (ts : List Co) (ih : SzzSC ts) : SzzC (.mk k g l ts) := by
  intro v fp left w h0 h1 hat
  obtain ⟨s, rfl, hs⟩ := Co.at_mk.1 hat
  have hle := szC_le (.mk 0 0 0 ts) left (by omega)
  have HIH := hid ih
  clear ih
  go_enter Try.func16, Try.ntmps16
  go_wp2_with fail
  refine ((HIH.out) s fp left _ h0 h1 (hs.below ?_)).mono ?_
  · exact (Below.refl _ _).alloc (Nat.le_refl _) _
  rintro e w1 ⟨rfl, hb⟩
  generalize hr : szC (.mk 0 0 0 ts) left = r at *
  have Hr := hid hr
  clear hr
  go_wp2_with fail
  · go_ret
    exact ⟨ret_i (by rw [show r = -1 by omega] at Hr; exact Hr.out.symm), alloc1 hb⟩
  · go_ret
    exact ⟨ret_i Hr.out.symm, alloc1 hb⟩

theorem szCL_step {ts : List Co} {k : Nat} (h : k < ts.length) (l : Int) : szCL (ts.drop k) l = if szC ts[k] l < 0 then -1 else szCL (ts.drop (k + 1)) (szC ts[k] l) := by
  rw [List.drop_eq_getElem_cons h, szCL]

set_option maxHeartbeats 400000 in
theorem szCoerS_of (ts : List Co) (ih : ∀ t ∈ ts, SzzC t) : SzzSC ts := by
  intro s fp left w h0 h1 hs
  have HIH := hid ih
  clear ih
  obtain ⟨a, cap, rfl, hc, hm, hget⟩ := hs.open
  have HG := hid hget
  clear hget hs
  by_cases hlt : left - (ts.length : Int) < 0
  · go_enter Try.func33, Try.ntmps33
    go_wp2_with fail
    go_ret
    exact ⟨ret_i (by simp only [szC, if_pos hlt]), Below.refl _ _⟩
  · have HT := hid (show szC (.mk 0 0 0 ts) left = szCL ts (left - (ts.length : Int)) by simp only [szC, if_neg hlt])
    go_enter Try.func33, Try.ntmps33
    go_wp2_with fail
    go_loopw [1, 5] (fun l i wr => ∃ (k : Nat) (lv : Int), k ≤ ts.length ∧ i = .int .i64 k ∧ l = .int .i64 lv ∧ 0 ≤ lv ∧ lv ≤ left ∧ szCL (ts.drop k) lv = szCL ts (left - (ts.length : Int)) ∧ Below w.heap.size w wr)
      (fun _ i _ => ts.length - (intOf i).toNat)
    case atStart => exact ⟨0, _, Nat.zero_le _, rfl, rfl, by omega, by omega, rfl, Below.refl _ _⟩
    case round =>
      obtain ⟨k, lv, hk, rfl, rfl, hlv0, hlv1, hsz, hb⟩ := hrel
      have HSZ := hid hsz
      clear hsz
      by_cases hlk : k < ts.length
      · obtain ⟨b, o, k1, g1, l1, n1, a1, cap1, f1, rfl, hblt, c0, c1, c2, c3, hat, hf⟩ := HG.out k hlk
        have d0 := (hb.cell (p := ⟨b, o + k * 4, none⟩) hblt).trans c0
        have d1 := (hb.cell (p := ⟨b, o + k * 4 + 1, none⟩) hblt).trans c1
        have d2 := (hb.cell (p := ⟨b, o + k * 4 + 2, none⟩) hblt).trans c2
        have d3 := (hb.cell (p := ⟨b, o + k * 4 + 3, none⟩) hblt).trans c3
        clear c0 c1 c2 c3
        have hst := szCL_step hlk lv
        have hb0 := szC_le ts[k] lv (by omega)
        generalize hr : szC ts[k] lv = r at hst hb0
        have Hr := hid hr
        have HST := hid hst
        clear hr hst
        go_wp2_with fail
        refine (HIH.out _ (List.getElem_mem hlk) _ _ lv _ hlv0 (by omega) (hat.below hb)).mono ?_
        rintro e w1 ⟨rfl, hb1⟩
        have hbb := below_trans hb hb1
        clear hb hb1 hat d0 d1 d2 d3
        rw [Hr.out]
        by_cases hneg : r < 0
        · go_wp2_with fail
          go_ret
          exact ⟨ret_i (by rw [HT.out, ← HSZ.out, HST.out, if_pos hneg]), hbb⟩
        · go_wp2_with fail
          go_roundw
          case rel => exact ⟨k + 1, r, by omega, by go_num, rfl, by omega, by omega, by rw [← HSZ.out, HST.out, if_neg (by omega)], hbb⟩
          case measure => simp [intOf]; omega
      · go_wp2_with fail
        go_ret
        have hk' : k = ts.length := by omega
        exact ⟨ret_i (by rw [HT.out, ← HSZ.out, hk', List.drop_length]; simp only [szCL]), hb⟩

/-- The helper's contracts, for every tree. -/
theorem szCoer_any : ∀ t : Co, SzzC t := Co.ind fun k g l ts ih => szCoer_of k g l ts (szCoerS_of ts ih)

mutual
theorem szC_eq : ∀ (t : Co) (left : Int), 0 ≤ left → ((t.cnt : Int) ≤ left → szC t left = left - t.cnt) ∧ (left < (t.cnt : Int) → szC t left = -1)
  | .mk k g l ts, left, h => by
    have e : (Co.mk k g l ts).cnt = ts.length + ccntL ts := by simp only [Co.cnt]
    simp only [szC]
    rw [e]
    split
    · exact ⟨fun _ => by omega, fun _ => rfl⟩
    · have := szCL_eq ts (left - (ts.length : Int)) (by omega)
      exact ⟨fun _ => by rw [this.1 (by omega)]; omega, fun _ => this.2 (by omega)⟩
theorem szCL_eq : ∀ (ts : List Co) (left : Int), 0 ≤ left → ((ccntL ts : Int) ≤ left → szCL ts left = left - ccntL ts) ∧ (left < (ccntL ts : Int) → szCL ts left = -1)
  | [], left, h => ⟨fun _ => by simp only [szCL, ccntL]; omega, fun h' => by simp only [ccntL] at h'; omega⟩
  | t :: ts, left, h => by
    have h1 := szC_eq t left h
    have e : ccntL (t :: ts) = t.cnt + ccntL ts := by simp only [ccntL]
    simp only [szCL]
    rw [e]
    by_cases hc : (t.cnt : Int) ≤ left
    · have := szCL_eq ts (left - t.cnt) (by omega)
      rw [h1.1 hc, if_neg (by omega)]
      exact ⟨fun _ => by rw [this.1 (by omega)]; omega, fun _ => this.2 (by omega)⟩
    · rw [h1.2 (by omega), if_pos (by omega)]
      exact ⟨fun _ => by omega, fun _ => rfl⟩
end

/-- The helper's contract by the number of nodes. -/
theorem szCoer_some (t : Co) (v : Value) (fp : List Nat) (left : Int) (w : World) (h0 : 0 ≤ left) (h1 : left ≤ 1048576) (hat : t.At w v fp) (hc : (t.cnt : Int) ≤ left) :
    Calls Try.prog 16 #[v, .int .i64 left] w fun e w' => e = .returned (.int .i64 (left - t.cnt)) ∧ Below w.heap.size w w' :=
  (szCoer_any t v fp left w h0 h1 hat).mono fun _ _ ⟨he, hb⟩ => ⟨by rw [he, (szC_eq t left h0).1 hc], hb⟩

theorem szCoer_none (t : Co) (v : Value) (fp : List Nat) (left : Int) (w : World) (h0 : 0 ≤ left) (h1 : left ≤ 1048576) (hat : t.At w v fp) (hc : ¬ (t.cnt : Int) ≤ left) :
    Calls Try.prog 16 #[v, .int .i64 left] w fun e w' => e = .returned (.int .i64 (-1)) ∧ Below w.heap.size w w' :=
  (szCoer_any t v fp left w h0 h1 hat).mono fun _ _ ⟨he, hb⟩ => ⟨by rw [he, (szC_eq t left h0).2 (by omega)], hb⟩

end Go.Proofs.Ytgiimijooabioaa

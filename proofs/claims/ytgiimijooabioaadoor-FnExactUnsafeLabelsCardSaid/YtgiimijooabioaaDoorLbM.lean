/- Slices of numbers in the laws: held against each other, marked, asked for the marks. -/
import Derived.Test.YtgiimijooabioaaDoorLbA
import Derived.Test.YtgiimijooabioaaDoorPkA
namespace Go.Proofs.YtgiimijooabioaaDoor
open Go.RowKit

theorem GrowI.only {B : Nat} {ds : List Int} {v : Value} {w w' : World} {f : List Nat} (h : GrowI B ds v w) (hon : Only f w w') (hd : ∀ x ∈ v.ownBlock.toList, x ∉ f) : GrowI B ds v w' := by
  obtain ⟨h1, h2⟩ := h
  refine ⟨h1, ?_⟩
  rcases h2 with h2 | ⟨g, cap, cur, rfl, hb, hg, hr⟩
  · exact .inl h2
  · exact .inr ⟨g, cap, cur, rfl, hb, (hon.block g (lt_of_block hg) (hd g (by simp [Value.ownBlock]))).trans hg, hr⟩

theorem GrowI.within {B : Nat} {ds : List Int} {v : Value} {w : World} (h : GrowI B ds v w) : Within B w.heap.size v.ownBlock.toList := fun b hb => h.own_ge b (by simpa using hb)

/-- The marks. -/
def rngI (n : Nat) (k : Int) : List Int := (List.range n).map fun i : Nat => k + (i : Int)

/-- What stands in the row behind j rounds of marks. -/
def midI (ds : List Int) (k : Int) (j : Nat) : List Int := rngI j k ++ ds.drop j

theorem rngI_len (n : Nat) (k : Int) : (rngI n k).length = n := by simp [rngI]
theorem rngI_get (n : Nat) (k : Int) (j : Nat) (h : j < (rngI n k).length) : (rngI n k)[j] = k + (j : Int) := by simp [rngI]
theorem midI_len (ds : List Int) (k : Int) (j : Nat) (h : j ≤ ds.length) : (midI ds k j).length = ds.length := by
  unfold midI
  rw [List.length_append, rngI_len, List.length_drop]
  omega
theorem midI_zero (ds : List Int) (k : Int) : midI ds k 0 = ds := by simp [midI, rngI]
theorem midI_end (ds : List Int) (k : Int) : midI ds k ds.length = rngI ds.length k := by simp [midI]
theorem midI_set (ds : List Int) (k : Int) (j : Nat) (h : j < ds.length) : (midI ds k j).set j (k + (j : Int)) = midI ds k (j + 1) := by
  unfold midI
  rw [List.set_append_right _ _ (by rw [rngI_len]; exact Nat.le_refl _), rngI_len, Nat.sub_self, List.drop_eq_getElem_cons h, List.set_cons_zero]
  simp [rngI, List.range_succ]

/-- An element stored. -/
theorem GrowI.put {B : Nat} {ds : List Int} {g n cap : Nat} {w : World} (h : GrowI B ds (.slice (some ⟨g, 0, none⟩) n cap) w) (j : Nat) (x : Int) : GrowI B (ds.set j x) (.slice (some ⟨g, 0, none⟩) n cap) (w.setCell ⟨g, j, none⟩ (.int .i64 x)) := by
  obtain ⟨h1, h2⟩ := h
  rcases h2 with ⟨h0, _⟩ | ⟨g', cap', cur, e, hb, hg, hc, hm, hsz, hx⟩
  · cases h0
  · cases e
    refine ⟨by simp, .inr ⟨g, cap, _, by rw [List.length_set], hb, heap_setCell_at hg _, by simpa using hc, hm, by simp [hsz], ?_⟩⟩
    simp only [Array.toList_setIfInBounds]
    rw [List.take_set, List.length_set, hx, List.map_set]

set_option maxRecDepth 100000 in
set_option maxHeartbeats 1000000 in
theorem eqIntS_any (B1 B2 : Nat) (ds : List Int) (v1 v2 : Value) (w : World) (h1 : GrowI B1 ds v1 w) (h2 : GrowI B2 ds v2 w) (hl : ds.length ≤ 4194304) :
    Calls Tryd.prog 19 #[v1, v2] w fun e w' => e = .returned (.bool true) ∧ Below w.heap.size w w' := by
  obtain ⟨a1, c1, rfl⟩ := h1.shape
  obtain ⟨a2, c2, rfl⟩ := h2.shape
  have H1 := hid h1
  have H2 := hid h2
  have hl63 : (ds.length : Int) ≤ 9223372036854775807 := by omega
  clear h1 h2
  go_enter Tryd.func19, Tryd.ntmps19
  go_wp2_with fail
  go_loopw [5] (fun i wr => ∃ j : Nat, j ≤ ds.length ∧ i = .int .i64 j ∧ Below w.heap.size w wr) (fun i _ => ds.length - (intOf i).toNat)
  case atStart => exact ⟨0, Nat.zero_le _, rfl, Below.refl _ _⟩
  case round =>
    obtain ⟨j, hj, rfl, hb⟩ := hrel
    by_cases hlk : j < ds.length
    · obtain ⟨g1, rfl, hg1, -, d1, -⟩ := H1.out.cells j hlk
      obtain ⟨g2, rfl, hg2, -, d2, -⟩ := H2.out.cells j hlk
      have e1 := cell_keep d1 hb
      have e2 := cell_keep d2 hb
      have HB := hid hb
      clear d1 d2 hb
      generalize ds[j] = x at *
      go_wp2_with fail
      go_region
      all_goals
        go_wp2_with fail
        go_roundw
        case rel => exact ⟨j + 1, by omega, by go_num, by first | exact HB.out.drew | exact below_trans HB.out (below_drew _)⟩
        case measure => simp [intOf]; omega
    · have HB := hid hb
      go_wp2_with fail
      go_ret
      exact ⟨rfl, HB.out⟩

set_option maxRecDepth 100000 in
set_option maxHeartbeats 1000000 in
theorem markIntS_any (B : Nat) (ds : List Int) (v : Value) (k : Nat) (w : World) (h : GrowI B ds v w) (hl : ds.length ≤ 4194304) (hk : k ≤ 4194304) :
    Calls Tryd.prog 21 #[v, .int .i64 (k : Int)] w fun e w' => e = .returned (.int .i64 ((k + ds.length : Nat) : Int)) ∧ GrowI B (rngI ds.length k) v w' ∧ Only v.ownBlock.toList w w' := by
  obtain ⟨a, c, rfl⟩ := h.shape
  have H := hid h
  have hl63 : (ds.length : Int) ≤ 9223372036854775807 := by omega
  clear h
  go_enter Tryd.func21, Tryd.ntmps21
  go_wp2_with fail
  go_loopw [1, 5] (fun m i wr => ∃ j : Nat, j ≤ ds.length ∧ i = .int .i64 j ∧ m = .int .i64 ((k + j : Nat) : Int) ∧ GrowI B (midI ds k j) (.slice a ds.length c) wr ∧ Only (Value.slice a ds.length c).ownBlock.toList w wr) (fun _ i _ => ds.length - (intOf i).toNat)
  case atStart => exact ⟨0, Nat.zero_le _, rfl, rfl, by rw [midI_zero]; exact H.out, Only.refl _ _⟩
  case round =>
    obtain ⟨j, hj, rfl, rfl, hG, hon⟩ := hrel
    by_cases hlk : j < ds.length
    · obtain ⟨g, rfl, hg, -, d, dz⟩ := hG.cells j (by rw [midI_len _ _ _ hj]; exact hlk)
      have HG := hid hG
      have HON := hid hon
      have HF := hid (And.intro (hG.put j (k + (j : Int))) (hon.trans (Only.setCell (fp := (Value.slice (some ⟨g, 0, none⟩) ds.length c).ownBlock.toList) (b := g) (o := j) (by simp [Value.ownBlock]) (.int .i64 (k + (j : Int))))))
      rw [midI_set _ _ _ hlk] at HF
      clear hG hon
      have hpc : ((k + j : Nat) : Int) = (k : Int) + (j : Int) := by omega
      rw [hpc]
      go_wp2_with fail
      go_roundw
      case rel => exact ⟨j + 1, by omega, by go_num, by go_num, HF.out.1, HF.out.2⟩
      case measure => simp [intOf]; omega
    · obtain rfl : j = ds.length := by omega
      have HG := hid hG
      have HON := hid hon
      clear hG hon
      go_wp2_with fail
      go_ret
      exact ⟨rfl, by have := HG.out; rwa [midI_end] at this, HON.out⟩

set_option maxRecDepth 100000 in
set_option maxHeartbeats 1000000 in
theorem heldIntS_any (B : Nat) (n : Nat) (v : Value) (k : Nat) (w : World) (h : GrowI B (rngI n k) v w) (hl : n ≤ 4194304) (hk : k ≤ 4194304) :
    Calls Tryd.prog 22 #[v, .int .i64 (k : Int)] w fun e w' => e = .returned (.int .i64 ((k + n : Nat) : Int)) ∧ Below w.heap.size w w' := by
  obtain ⟨a, c, rfl⟩ := h.shape
  have hn := rngI_len n k
  have H := hid h
  have hl63 : (n : Int) ≤ 9223372036854775807 := by omega
  clear h
  rw [hn]
  go_enter Tryd.func22, Tryd.ntmps22
  go_wp2_with fail
  go_loopw [1, 5] (fun m i wr => ∃ j : Nat, j ≤ n ∧ i = .int .i64 j ∧ m = .int .i64 ((k + j : Nat) : Int) ∧ Below w.heap.size w wr) (fun _ i _ => n - (intOf i).toNat)
  case atStart => exact ⟨0, Nat.zero_le _, rfl, rfl, Below.refl _ _⟩
  case round =>
    obtain ⟨j, hj, rfl, rfl, hb⟩ := hrel
    by_cases hlk : j < n
    · obtain ⟨g, rfl, hg, -, d, -⟩ := H.out.cells j (by rw [hn]; exact hlk)
      rw [rngI_get] at d
      have e := cell_keep d hb
      have HB := hid hb
      clear d hb
      have hpc : ((k + j : Nat) : Int) = (k : Int) + (j : Int) := by omega
      rw [hpc]
      go_wp2_with fail
      go_roundw
      case rel => exact ⟨j + 1, by omega, by go_num, by go_num, HB.out⟩
      case measure => simp [intOf]; omega
    · obtain rfl : j = n := by omega
      have HB := hid hb
      go_wp2_with fail
      go_ret
      exact ⟨rfl, HB.out⟩
end Go.Proofs.YtgiimijooabioaaDoor

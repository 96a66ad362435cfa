/- The specification's TypeValid. -/
import Derived.Test.YtephhhnoobkbhaaPure
namespace Go.Proofs.Ytephhhnoobkbhaa
open Go.RowKit

theorem l1Kids_any (k : Int) (w : World) : Calls Try.prog 136 #[.int .i64 k] w fun e w' => e = .returned (.int .i64 (kidsOf k)) ∧ w' = w := by
  by_cases h1 : k = 1
  · subst h1
    go_enter Try.func136, Try.ntmps136
    go_wp2_with fail
    go_ret
    exact ⟨rfl, rfl⟩
  by_cases h2 : k = 2
  · subst h2
    go_enter Try.func136, Try.ntmps136
    go_wp2_with fail
    go_ret
    exact ⟨rfl, rfl⟩
  by_cases h3 : k = 3
  · subst h3
    go_enter Try.func136, Try.ntmps136
    go_wp2_with fail
    go_ret
    exact ⟨rfl, rfl⟩
  by_cases h4 : k = 4
  · subst h4
    go_enter Try.func136, Try.ntmps136
    go_wp2_with fail
    go_ret
    exact ⟨rfl, rfl⟩
  by_cases h5 : k = 5
  · subst h5
    go_enter Try.func136, Try.ntmps136
    go_wp2_with fail
    go_ret
    exact ⟨rfl, rfl⟩
  have H := hid (show kidsOf k = -1 by simp [kidsOf, h1, h2, h3, h4, h5])
  go_enter Try.func136, Try.ntmps136
  go_wp2_with fail
  go_ret
  exact ⟨ret_i H.out.symm, rfl⟩

def ShC (d : Nat) : Prop := ∀ (t : Ty) (v : Value) (fp : List Nat) (n : Int) (w : World), n ≤ 100 → n.toNat = d → t.At w v fp →
  Calls Try.prog 104 #[v, .int .i64 n] w fun e w' => e = .returned (.bool (shp d t)) ∧ Below w.heap.size w w'

set_option maxHeartbeats 400000 in
theorem l1Shape_zero : ShC 0 := by
  intro t v fp n w hn0 hn hat
  obtain ⟨k, m, a, cap, rfl⟩ := hat.agg
  have hn1 : n < 1 := by omega
  have hn2 : decide (n < 1) = true := by simp; omega
  clear hn
  go_enter Try.func104, Try.ntmps104
  go_wp2_with fail
  go_quiet (fail)
  go_wp2_with fail
  go_ret
  exact ⟨ret_b (by simp only [shp]), belowN ((Below.refl _ _).alloc (Nat.le_refl _) _) _⟩

set_option maxHeartbeats 400000 in
theorem l1Shape_succ (d : Nat) (ih : ShC d) : ShC (d + 1) := by
  intro t v fp n w hn0 hn hat
  have HIH := hid ih
  clear ih
  obtain ⟨k, ts, rfl⟩ := t.shape
  obtain ⟨s, rfl, hs⟩ := Ty.at_mk.1 hat
  obtain ⟨a, cap, rfl, hc, hm, hget⟩ := hs.open
  have HG := hid hget
  clear hget hat hs
  have hn1 : 1 ≤ n := by omega
  have hn2 : decide (n < 1) = false := by simp; omega
  have HN := hid hn
  clear hn
  by_cases hk : kidsOf k = (ts.length : Int)
  · have hk1 : (kidsOf k == (ts.length : Int)) = true := by simpa using hk
    have hk2 : (kidsOf k != (ts.length : Int)) = false := by simpa using hk
    have HT := hid (show shp (d + 1) (.mk k ts) = ts.all (shp d) by simp [shp, hk])
    clear hk
    go_enter Try.func104, Try.ntmps104
    go_wp2_with fail
    go_quiet ((go_at_call 136; exact Calls.quiet_of_same (l1Kids_any _ _)))
    go_wp2_with fail
    go_loopw [5] (fun i wr => ∃ j : Nat, j ≤ ts.length ∧ i = .int .i64 j ∧ (ts.drop j).all (shp d) = ts.all (shp d) ∧ Below (w.alloc (Obj.cells #[.int .i64 k, .slice a ts.length cap] 28)).heap.size (w.alloc (Obj.cells #[.int .i64 k, .slice a ts.length cap] 28)) wr) (fun i _ => ts.length - (intOf i).toNat)
    case atStart => exact ⟨0, Nat.zero_le _, rfl, rfl, belowN (Below.refl _ _) _⟩
    case round =>
      obtain ⟨j, hj, rfl, hdr, hb⟩ := hrel
      have HD := hid hdr
      clear hdr
      obtain ⟨x0, x1⟩ := box_cells hb
      by_cases hlk : j < ts.length
      · obtain ⟨b, o, v0, v1, f1, rfl, hblt, c0, c1, hat, hf⟩ := HG.out j hlk
        have hbw := alloc1 hb
        have d0 := (hbw.cell (p := ⟨b, o + j * 2, none⟩) hblt).trans c0
        have d1 := (hbw.cell (p := ⟨b, o + j * 2 + 1, none⟩) hblt).trans c1
        clear c0 c1
        have HST := hid (shp_all (d := d) hlk)
        go_wp2_with fail
        refine (HIH.out _ _ _ _ _ (by omega) (by have := HN.out; omega) (hat.below hbw)).mono ?_
        rintro e w1 ⟨rfl, hb1⟩
        have hbb := hb.trans (hb1.mono hb.size)
        clear hb hb1 hat d0 d1 hbw
        generalize shp d ts[j] = r at *
        cases r
        · go_wp2_with fail
          go_ret
          exact ⟨ret_b (by rw [HT.out, ← HD.out, HST.out, Bool.false_and]), alloc1 hbb⟩
        · go_wp2_with fail
          go_roundw
          case rel => exact ⟨j + 1, by omega, by go_num, by rw [← HD.out, HST.out, Bool.true_and], hbb⟩
          case measure => simp [intOf]; omega
      · go_wp2_with fail
        go_ret
        exact ⟨ret_b (by rw [HT.out, ← HD.out, List.drop_of_length_le (by omega), List.all_nil]), alloc1 hb⟩
  · have hk1 : (kidsOf k == (ts.length : Int)) = false := by simpa using hk
    have hk2 : (kidsOf k != (ts.length : Int)) = true := by simpa using hk
    have HT := hid (show shp (d + 1) (.mk k ts) = false by simp [shp, hk])
    clear hk
    go_enter Try.func104, Try.ntmps104
    go_wp2_with fail
    go_quiet ((go_at_call 136; exact Calls.quiet_of_same (l1Kids_any _ _)))
    go_wp2_with fail
    go_ret
    exact ⟨ret_b HT.out.symm, belowN ((Below.refl _ _).alloc (Nat.le_refl _) _) _⟩

theorem l1Shape_any (d : Nat) : ShC d := by
  induction d with
  | zero => exact l1Shape_zero
  | succ d ih => exact l1Shape_succ d ih

/-- The document's TypeValid. -/
def vld (t : Ty) : Bool := shp 4 t

theorem specTypeValid_any (t : Ty) (v : Value) (fp : List Nat) (w : World) (h : t.At w v fp) :
    Calls Try.prog 53 #[v] w fun e w' => e = .returned (.bool (vld t)) ∧ Below w.heap.size w w' := by
  obtain ⟨k, m, a, cap, rfl⟩ := h.agg
  go_enter Try.func53, Try.ntmps53
  go_wp2_with fail
  refine (l1Shape_any 4 t _ fp 4 _ (by omega) rfl (h.below ?_)).mono ?_
  · exact (Below.refl _ _).alloc (Nat.le_refl _) _
  rintro e w1 ⟨rfl, hb⟩
  generalize hr : shp 4 t = r
  have HR := hid hr
  clear hr
  go_wp2_with fail
  go_ret
  exact ⟨ret_b HR.out.symm, alloc1 hb⟩
end Go.Proofs.Ytephhhnoobkbhaa

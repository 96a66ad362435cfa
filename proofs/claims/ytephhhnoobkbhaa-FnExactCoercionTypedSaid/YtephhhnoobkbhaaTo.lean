/- The laws' own helper toType: a copy in memory of its own. -/
import Derived.Test.YtephhhnoobkbhaaPure
namespace Go.Proofs.Ytephhhnoobkbhaa
open Go.RowKit

theorem Try.underTys : Try.prog.underlying 26 = some (.slice 28) := by kernel_rfl
theorem Try.infoTy : (Try.prog.info? 28).map (fun i => (i.zero, i.size, i.bytes)) = some (some (.agg #[.int .i64 0, .slice none 0 0]), 2, 32) := by kernel_rfl

def ToC (t : Ty) : Prop := ∀ (v : Value) (fp : List Nat) (w : World), t.At w v fp → t.cnt ≤ 1048576 → Calls Try.prog 16 #[v] w (MadeT w t)

def ToSC (ts : List Ty) : Prop := ∀ (s : Value) (fp : List Nat) (w : World), SlAt w ts s fp → (Ty.mk 0 ts).cnt ≤ 1048576 → Calls Try.prog 55 #[s] w (MadeS w ts)

set_option maxHeartbeats 400000 in
theorem toType_of (k : Int) (ts : List Ty) (ih : ToSC ts) : ToC (.mk k ts) := by
  intro v fp w hat hn
  obtain ⟨s, rfl, hs⟩ := Ty.at_mk.1 hat
  have HIH := hid ih
  clear ih
  go_enter Try.func16, Try.ntmps16
  go_wp2_with fail
  refine (HIH.out s fp _ (hs.below ?_) hn).mono ?_
  · exact (((Below.refl _ _).alloc (Nat.le_refl _) _).alloc (by simp) _).alloc (by simp; omega) _
  rintro e w1 ⟨s', f', rfl, hs', hf', hb⟩
  obtain ⟨a', cap', rfl⟩ := hs'.shape
  obtain ⟨hc1, hc2⟩ := bcell hb
  have hz : w.heap.size + 1 + 1 < w1.heap.size := by have := hb.size; simp at this; omega
  go_wp2_with fail
  have hab := (((Above.refl (w.heap.size + 1 + 1 + 1) w1).setCell (p := ⟨w.heap.size + 1 + 1, 1, none⟩) (Nat.lt_succ_self _) (.slice a' ts.length cap')).setCell (p := ⟨w.heap.size + 1, 0, none⟩) (by simp) (.int .i64 k)).setCell (p := ⟨w.heap.size + 1, 1, none⟩) (by simp) (.slice a' ts.length cap')
  have hbb := ((((((Below.refl w.heap.size w).alloc (Nat.le_refl _) (Obj.cells #[.int .i64 k, s] 24)).alloc (by simp) (Obj.cells #[.int .i64 0, .slice none 0 0] 28)).alloc (by simp; omega) (Obj.cells #[.int .i64 k, .slice none 0 0] 28)).trans (hb.mono (by simp; omega))).setCell (p := ⟨w.heap.size + 1 + 1, 1, none⟩) (by simp; omega) (.slice a' ts.length cap')).setCell (p := ⟨w.heap.size + 1, 0, none⟩) (by simp) (.int .i64 k) |>.setCell (p := ⟨w.heap.size + 1, 1, none⟩) (by simp) (.slice a' ts.length cap')
  have hsz : (((w.alloc (Obj.cells #[.int .i64 k, s] 24)).alloc (Obj.cells #[.int .i64 0, .slice none 0 0] 28)).alloc (Obj.cells #[.int .i64 k, .slice none 0 0] 28)).heap.size = w.heap.size + 1 + 1 + 1 := by simp
  rw [hsz] at hf'
  exact bodyPost_ret (v := .agg #[.int .i64 k, .slice a' ts.length cap']) (by simp [results, Try.results16, go_sem, hc1]) rfl ⟨_, f', rfl, Ty.at_mk.2 ⟨_, rfl, hs'.above hab hf'.ge⟩, (hf'.above hab (Nat.le_refl _)).mono (by omega), hbb⟩

/-- The loop's relation behind k rounds: the new block and what its first k elements lead to. -/
def ToInv (w : World) (ts : List Ty) (k : Nat) (wr : World) : Prop :=
  ∃ fp, Built w.heap.size 28 ts.length (ts.take k) fp wr ∧ Below w.heap.size w wr

set_option maxHeartbeats 400000 in
theorem toTypeS_of (ts : List Ty) (ih : ∀ t ∈ ts, ToC t) : ToSC ts := by
  intro s fp w hs hn
  have HIH := hid ih
  clear ih
  obtain ⟨a, cap, rfl, hc, hm, hget⟩ := hs.open
  have HG := hid hget
  clear hget hs
  have hcnt : (Ty.mk 0 ts).cnt = ts.length + cntL ts := by simp only [Ty.cnt]
  obtain ⟨Z, hZ, hmk⟩ : ∃ Z : Array Value, Z.size = ts.length * 2 ∧ ∀ w : World, (Instr.makeSlice 26 (.int .i64 (ts.length : Int)) (.int .i64 (ts.length : Int))).run Try.prog w = .ok (.slice (some ⟨w.heap.size, 0, none⟩) ts.length ts.length) (w.alloc (.cells Z 28)) := by
    obtain ⟨i0, hi, hz0, hz1, hz2⟩ := info_parts (P := Try.prog) (e := 28) Try.infoTy
    have r := fun w : World => run_make w _ _ i0 _ Try.underTys hi hz0 .i64 .i64 (ts.length : Int) (ts.length : Int) (by omega) (by omega) (by rw [hz2]; omega) (by omega)
    simp only [Int.toNat_natCast, hz1] at r
    exact ⟨_, size_madeCells _ _, r⟩
  have HZ := hid hZ
  have HN := hid hcnt
  clear hZ hcnt
  go_enter Try.func55, Try.ntmps55
  go_wp2_with fail
  go_loopw [4] (fun i wr => ∃ k : Nat, k ≤ ts.length ∧ i = .int .i64 k ∧ ToInv w ts k wr) (fun i _ => ts.length - (intOf i).toNat)
  case atStart =>
    exact ⟨0, Nat.zero_le _, rfl, [], Built.zero (C := Z) (alloc_new _ _) HZ.out, (Below.refl _ _).alloc (Nat.le_refl _) _⟩
  case round =>
    obtain ⟨k, hk, rfl, f0, hB, hb⟩ := hrel
    by_cases hlk : k < ts.length
    · obtain ⟨b, o, v0, v1, f1, rfl, hblt, c0, c1, hat, hf⟩ := HG.out k hlk
      have d0 := (hb.cell (p := ⟨b, o + k * 2, none⟩) hblt).trans c0
      have d1 := (hb.cell (p := ⟨b, o + k * 2 + 1, none⟩) hblt).trans c1
      clear c0 c1
      go_wp2_with fail
      refine (HIH.out _ (List.getElem_mem hlk) _ _ _ (hat.below hb) (by have := HN.out; have := cnt_mem (List.getElem_mem hlk); omega)).mono ?_
      rintro e w1 ⟨v, f', rfl, hat', hf', hb1⟩
      obtain ⟨k1, n1, a1, cap1, rfl⟩ := hat'.agg
      obtain ⟨y0, y1, g0, g1, z0⟩ := hB.cells hlk hb1
      clear d0 d1
      go_wp2_with fail
      refine ⟨⟨k + 1, by omega, by go_num, f0 ++ f', ?_, ?_⟩, by simp [intOf]; omega⟩
      · rw [take_succ hlk]
        exact hB.step (by rw [List.length_take]; omega) hlk hb1 hat' hf'
      · exact ((below_trans hb hb1).setCell (p := ⟨w.heap.size, k * 2, none⟩) (Nat.le_refl _) _).setCell (p := ⟨w.heap.size, k * 2 + 1, none⟩) (Nat.le_refl _) _
    · go_wp2_with fail
      go_ret
      obtain ⟨fp', hs', hf'⟩ := hB.done (by rw [List.length_take]; omega) (by unfold maxLen; omega)
      rw [List.take_of_length_le (by omega)] at hs'
      exact ⟨_, fp', rfl, hs', hf', hb⟩

/-- The helper's contracts, for every tree. -/
theorem toType_any : ∀ t : Ty, ToC t := Ty.ind fun k ts ih => toType_of k ts (toTypeS_of ts ih)

end Go.Proofs.Ytephhhnoobkbhaa

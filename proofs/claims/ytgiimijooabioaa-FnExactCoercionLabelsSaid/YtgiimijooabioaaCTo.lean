/- The laws' own helper toCoercion: a copy in memory of its own. -/
import Derived.Test.YtgiimijooabioaaCp
namespace Go.Proofs.Ytgiimijooabioaa
open Go.RowKit

theorem Try.underCos : Try.prog.underlying 38 = some (.slice 40) := by kernel_rfl
theorem Try.infoCo : (Try.prog.info? 40).map (fun i => (i.zero, i.size, i.bytes)) = some (some (.agg #[.int .i64 0, .int .i64 0, .int .i64 0, .slice none 0 0]), 4, 48) := by kernel_rfl

def TooC (t : Co) : Prop := ∀ (v : Value) (fp : List Nat) (w : World), t.At w v fp → t.cnt ≤ 1048576 → Calls Try.prog 18 #[v] w (MadeC w t)

def TooSC (ts : List Co) : Prop := ∀ (s : Value) (fp : List Nat) (w : World), CSl w ts s fp → (Co.mk 0 0 0 ts).cnt ≤ 1048576 → Calls Try.prog 36 #[s] w (MadeCS w ts)

set_option maxHeartbeats 400000 in
theorem toCoer_of (k g l : Int) (ts : List Co) (ih : TooSC ts) : TooC (.mk k g l ts) := by
  intro v fp w hat hn
  obtain ⟨s, rfl, hs⟩ := Co.at_mk.1 hat
  have HIH := hid ih
  clear ih
  go_enter Try.func18, Try.ntmps18
  go_wp2_with fail
  refine (HIH.out s fp _ (hs.below ?_) hn).mono ?_
  · exact (((Below.refl _ _).alloc (Nat.le_refl _) _).alloc (by simp) _).alloc (by simp; omega) _
  rintro e w1 ⟨s', f', rfl, hs', hf', hb⟩
  obtain ⟨a', cap', rfl⟩ := hs'.shape
  obtain ⟨hc1, hc2⟩ := bcell hb
  have hz : w.heap.size + 1 + 1 < w1.heap.size := by have := hb.size; simp at this; omega
  go_wp2_with fail
  have hab := ((Above.refl (w.heap.size + 1 + 1 + 1) w1).setCell (p := ⟨w.heap.size + 1 + 1, 3, none⟩) (Nat.lt_succ_self _) (.slice a' ts.length cap')) |>.setCell (p := ⟨w.heap.size + 1, 0, none⟩) (by simp) (.int .i64 k) |>.setCell (p := ⟨w.heap.size + 1, 1, none⟩) (by simp) (.int .i64 g) |>.setCell (p := ⟨w.heap.size + 1, 2, none⟩) (by simp) (.int .i64 l) |>.setCell (p := ⟨w.heap.size + 1, 3, none⟩) (by simp) (.slice a' ts.length cap')
  have hbb := ((((((Below.refl w.heap.size w).alloc (Nat.le_refl _) (Obj.cells #[.int .i64 k, .int .i64 g, .int .i64 l, s] 34)).alloc (by simp) (Obj.cells #[.int .i64 0, .int .i64 0, .int .i64 0, .slice none 0 0] 40)).alloc (by simp; omega) (Obj.cells #[.int .i64 k, .int .i64 g, .int .i64 l, .slice none 0 0] 40)).trans (hb.mono (by simp; omega))).setCell (p := ⟨w.heap.size + 1 + 1, 3, none⟩) (by simp; omega) (.slice a' ts.length cap')) |>.setCell (p := ⟨w.heap.size + 1, 0, none⟩) (by simp) (.int .i64 k) |>.setCell (p := ⟨w.heap.size + 1, 1, none⟩) (by simp) (.int .i64 g) |>.setCell (p := ⟨w.heap.size + 1, 2, none⟩) (by simp) (.int .i64 l) |>.setCell (p := ⟨w.heap.size + 1, 3, none⟩) (by simp) (.slice a' ts.length cap')
  have hsz : (((w.alloc (Obj.cells #[.int .i64 k, .int .i64 g, .int .i64 l, s] 34)).alloc (Obj.cells #[.int .i64 0, .int .i64 0, .int .i64 0, .slice none 0 0] 40)).alloc (Obj.cells #[.int .i64 k, .int .i64 g, .int .i64 l, .slice none 0 0] 40)).heap.size = w.heap.size + 1 + 1 + 1 := by simp
  rw [hsz] at hf'
  exact bodyPost_ret (v := .agg #[.int .i64 k, .int .i64 g, .int .i64 l, .slice a' ts.length cap']) (by simp [results, Try.results18, go_sem, hc1]) rfl ⟨_, f', rfl, Co.at_mk.2 ⟨_, rfl, hs'.above hab hf'.ge⟩, (hf'.above hab (Nat.le_refl _)).mono (by omega), hbb⟩

/-- The loop's relation behind k rounds: the new block and what its first k elements lead to. -/
def TooInv (w : World) (ts : List Co) (k : Nat) (wr : World) : Prop :=
  ∃ fp, BuiltC w.heap.size 40 ts.length (ts.take k) fp wr ∧ Below w.heap.size w wr

set_option maxHeartbeats 400000 in
theorem toCoerS_of (ts : List Co) (ih : ∀ t ∈ ts, TooC t) : TooSC ts := by
  intro s fp w hs hn
  have HIH := hid ih
  clear ih
  obtain ⟨a, cap, rfl, hc, hm, hget⟩ := hs.open
  have HG := hid hget
  clear hget hs
  have hcnt := ccnt_mk 0 0 0 ts
  obtain ⟨Z, hZ, hmk⟩ : ∃ Z : Array Value, Z.size = ts.length * 4 ∧ ∀ w : World, (Instr.makeSlice 38 (.int .i64 (ts.length : Int)) (.int .i64 (ts.length : Int))).run Try.prog w = .ok (.slice (some ⟨w.heap.size, 0, none⟩) ts.length ts.length) (w.alloc (.cells Z 40)) := by
    obtain ⟨i0, hi, hz0, hz1, hz2⟩ := info_parts (P := Try.prog) (e := 40) Try.infoCo
    have r := fun w : World => run_make w _ _ i0 _ Try.underCos hi hz0 .i64 .i64 (ts.length : Int) (ts.length : Int) (by omega) (by omega) (by rw [hz2]; omega) (by omega)
    simp only [Int.toNat_natCast, hz1] at r
    exact ⟨_, size_madeCells _ _, r⟩
  have HZ := hid hZ
  have HN := hid hcnt
  clear hZ hcnt
  go_enter Try.func36, Try.ntmps36
  go_wp2_with fail
  go_loopw [4] (fun i wr => ∃ k : Nat, k ≤ ts.length ∧ i = .int .i64 k ∧ TooInv w ts k wr) (fun i _ => ts.length - (intOf i).toNat)
  case atStart =>
    exact ⟨0, Nat.zero_le _, rfl, [], BuiltC.zero (C := Z) (alloc_new _ _) HZ.out, (Below.refl _ _).alloc (Nat.le_refl _) _⟩
  case round =>
    obtain ⟨k, hk, rfl, f0, hB, hb⟩ := hrel
    by_cases hlk : k < ts.length
    · obtain ⟨b, o, k1, g1, l1, n1, a1, cap1, f1, rfl, hblt, c0, c1, c2, c3, hat, hf⟩ := HG.out k hlk
      have d0 := (hb.cell (p := ⟨b, o + k * 4, none⟩) hblt).trans c0
      have d1 := (hb.cell (p := ⟨b, o + k * 4 + 1, none⟩) hblt).trans c1
      have d2 := (hb.cell (p := ⟨b, o + k * 4 + 2, none⟩) hblt).trans c2
      have d3 := (hb.cell (p := ⟨b, o + k * 4 + 3, none⟩) hblt).trans c3
      clear c0 c1 c2 c3
      go_wp2_with fail
      refine (HIH.out _ (List.getElem_mem hlk) _ _ _ (hat.below hb) (by have := HN.out; have := ccnt_mem (List.getElem_mem hlk); omega)).mono ?_
      rintro e w1 ⟨v, f', rfl, hat', hf', hb1⟩
      obtain ⟨k1', g1', l1', n1', a1', cap1', rfl⟩ := hat'.agg
      obtain ⟨y0, y1, y2, y3, p0, p1, p2, p3, z0⟩ := hB.cells hlk hb1
      clear d0 d1 d2 d3
      go_wp2_with fail
      refine ⟨⟨k + 1, by omega, by go_num, f0 ++ f', ?_, ?_⟩, by simp [intOf]; omega⟩
      · rw [ctake_succ hlk]
        exact hB.step (by rw [List.length_take]; omega) hlk hb1 hat' hf'
      · exact ((((below_trans hb hb1).setCell (p := ⟨w.heap.size, k * 4, none⟩) (Nat.le_refl _) _).setCell (p := ⟨w.heap.size, k * 4 + 1, none⟩) (Nat.le_refl _) _).setCell (p := ⟨w.heap.size, k * 4 + 2, none⟩) (Nat.le_refl _) _).setCell (p := ⟨w.heap.size, k * 4 + 3, none⟩) (Nat.le_refl _) _
    · go_wp2_with fail
      go_ret
      obtain ⟨fp', hs', hf'⟩ := hB.done (by rw [List.length_take]; omega) (by unfold maxLen; omega)
      rw [List.take_of_length_le (by omega)] at hs'
      exact ⟨_, fp', rfl, hs', hf', hb⟩

/-- The helper's contracts, for every tree. -/
theorem toCoer_any : ∀ t : Co, TooC t := Co.ind fun k g l ts ih => toCoer_of k g l ts (toCoerS_of ts ih)

end Go.Proofs.Ytgiimijooabioaa

/- markCoercion, heldCoercionS and heldCoercion; memory apart. -/
import Derived.Test.YtgekfnodmgkdaaaCMk
import Derived.Test.YtgekfnodmgkdaaaPkA
namespace Go.Proofs.Ytgekfnodmgkdaaa
open Go.RowKit

theorem Co.At.only {w w' : World} {f g : List Nat} {t : Co} {v : Value} (h : t.At w v g) (hon : Only f w w') (hd : ∀ b ∈ g, b ∉ f) : t.At w' v g :=
  h.congr fun b hb o => World.cell?_of_block (w := w) (a := ⟨b, o, none⟩) (hon.block b (h.lt b hb) (hd b hb))

theorem Co.At.within {w : World} {t : Co} {v : Value} {f : List Nat} (h : t.At w v f) : Within 0 w.heap.size f := fun b hb => ⟨Nat.zero_le _, h.lt b hb⟩

/-- A coercion with all nodes below the root marked. -/
def mkCT : Co → Int → Co
  | .mk k g l ts, m => .mk k g l (mkCL ts m)

set_option maxHeartbeats 400000 in
theorem markCoer_any (t : Co) (v : Value) (fp : List Nat) (m : Int) (w : World) (hat : t.At w v fp) (hnd : fp.Nodup) (hfz : ∀ b ∈ fp, ∀ o, w.frozen? ⟨b, o, none⟩ = false) (hm0 : 0 ≤ m) (hm1 : m + 3 * t.cnt ≤ 1073741824) :
    Calls Try.prog 16 #[v, .int .i64 m] w fun e w' => e = .returned (.int .i64 (m + 3 * t.cnt)) ∧ (mkCT t m).At w' v fp ∧ Only fp w w' := by
  obtain ⟨k, g, l, ts, rfl⟩ := t.shape
  obtain ⟨s, rfl, hs⟩ := Co.at_mk.1 hat
  have hal : Below w.heap.size w (w.alloc (Obj.cells #[.int .i64 k, .int .i64 g, .int .i64 l, s] 44)) := (Below.refl _ _).alloc (Nat.le_refl _) _
  have hlt := hs.lt
  have HC := hid (ccnt_any k g l 0 0 0 ts)
  have HM := hid hm1
  have HZ := hid hfz
  have HAL := hid hal
  clear hm1 hfz hal
  go_enter Try.func16, Try.ntmps16
  go_wp2_with fail
  refine (markCoerS_any ts s fp m _ (hs.below HAL.out) hnd (fun b hb o => (HAL.out.frozen (p := ⟨b, o, none⟩) (hlt b hb)).trans (HZ.out b hb o)) hm0 (by have := HM.out; have := HC.out; omega)).mono ?_
  rintro e w1 ⟨rfl, hs1, hon⟩
  have HON := hid ((only_of_below HAL.out).trans hon)
  have HS1 := hid hs1
  clear hs1 hon
  go_wp2_with fail
  go_ret
  exact ⟨ret_i (by rw [HC.out]), Co.at_mk.2 ⟨_, rfl, HS1.out⟩, HON.out⟩

def HeCC (ts : List Co) : Prop := ∀ (s : Value) (fp : List Nat) (m : Int) (w : World), CSl w (mkCL ts m) s fp → 0 ≤ m → m + 3 * (Co.mk 0 0 0 ts).cnt ≤ 1073741824 →
  Calls Try.prog 41 #[s, .int .i64 m] w fun e w' => e = .returned (.int .i64 (m + 3 * (Co.mk 0 0 0 ts).cnt)) ∧ Below w.heap.size w w'

set_option maxHeartbeats 1600000 in
theorem heldCoerS_of (ts : List Co) (ih : ∀ t ∈ ts, HeCC (kidsC t)) : HeCC ts := by
  intro s fp m w hs hm0 hm1
  have HIH := hid ih
  clear ih
  obtain ⟨a, cap, rfl, hc, hm, hget⟩ := hs.open
  have HG := hid hget
  rw [mkCL_len] at hc hm
  have hlen := mkCL_len ts m
  have HL := hid hlen
  have hcnt := offC_all ts
  have hbd := offC_bd ts
  have HCNT := hid hcnt
  have HBD := hid hbd
  have HM1 := hid hm1
  clear hget hcnt hbd hs hm1
  rw [hlen]
  clear hlen
  go_enter Try.func41, Try.ntmps41
  go_wp2_with fail
  go_loopw [1, 5] (fun k i wr => ∃ j : Nat, j ≤ ts.length ∧ i = .int .i64 j ∧ k = .int .i64 (m + offC ts j) ∧ Below w.heap.size w wr)
    (fun _ i _ => ts.length - (intOf i).toNat)
  case atStart => exact ⟨0, Nat.zero_le _, rfl, by cases ts <;> simp [offC], Below.refl _ _⟩
  case round =>
    obtain ⟨j, hj, rfl, rfl, hb⟩ := hrel
    by_cases hlk : j < ts.length
    · have hlk' : j < (mkCL ts m).length := by rw [HL.out]; exact hlk
      obtain ⟨b, o, k1, x1, l1, n1, a1, cap1, g1, rfl, hblt, c0, c1, c2, c3, hat, hf⟩ := HG.out j hlk'
      rw [mkCL_get hlk hlk'] at hat
      obtain ⟨s', hv, hs'⟩ := Co.at_mk.1 hat
      simp only [Value.agg.injEq, Array.mk.injEq, List.cons.injEq, and_true, Value.int.injEq, true_and] at hv
      obtain ⟨rfl, rfl, rfl, rfl⟩ := hv
      have d0 := (hb.cell (p := ⟨b, o + j * 4, none⟩) hblt).trans c0
      have d1 := (hb.cell (p := ⟨b, o + j * 4 + 1, none⟩) hblt).trans c1
      have d2 := (hb.cell (p := ⟨b, o + j * 4 + 2, none⟩) hblt).trans c2
      have d3 := (hb.cell (p := ⟨b, o + j * 4 + 3, none⟩) hblt).trans c3
      have hofs := offC_succ hlk
      have hb0 := (HBD.out j)
      have hb1 := (HBD.out (j + 1))
      have hk1 : 0 ≤ m + offC ts j ∧ m + offC ts j + 3 ≤ 1073741824 := by have := HM1.out; have := HCNT.out; omega
      obtain ⟨hk1a, hk1b⟩ := hk1
      have hck := ccnt_kids ts[j]
      have hk2 : 0 ≤ m + offC ts j + 3 + 3 * ((Co.mk 0 0 0 (kidsC ts[j])).cnt : Int) := by omega
      have hk3 : m + offC ts j + 3 + 3 * ((Co.mk 0 0 0 (kidsC ts[j])).cnt : Int) ≤ 1073741824 := by have := HM1.out; have := HCNT.out; omega
      have HOF := hid hofs
      have HCK := hid hck
      have HK3 := hid hk3
      have e2 : m + offC ts j + 1 + 1 = m + offC ts j + 2 := by omega
      have e3 : m + offC ts j + 2 + 1 = m + offC ts j + 3 := by omega
      have E2 := hid e2
      have E3 := hid e3
      rw [← e2] at d2
      clear c0 c1 c2 c3 hofs hb0 hb1 hck hk3 e2 e3
      go_wp2_with fail
      rw [show m + offC ts j + 1 + 1 + 1 = m + offC ts j + 3 by omega]
      refine (HIH.out _ (List.getElem_mem hlk) _ _ _ _ (hs'.below hb) (by omega) HK3.out).mono ?_
      rintro e w1 ⟨rfl, hb1⟩
      have hbb := below_trans hb hb1
      clear hb hb1 hat hs' d0 d1 d2 d3
      go_wp2_with fail
      go_roundw
      case rel =>
        refine ⟨j + 1, by omega, by go_num, ?_, hbb⟩
        rw [HOF.out, HCK.out]
        congr 1
        omega
      case measure => simp [intOf]; omega
    · have hjl : j = ts.length := by omega
      go_wp2_with fail
      go_ret
      exact ⟨ret_i (by rw [hjl, HCNT.out]), hb⟩

theorem heldCoerS_any (ts : List Co) : HeCC ts := by
  have h : ∀ t : Co, HeCC (kidsC t) := Co.ind fun k g l ts ih => heldCoerS_of ts ih
  exact h (.mk 0 0 0 ts)

set_option maxHeartbeats 400000 in
theorem heldCoer_any (t : Co) (v : Value) (fp : List Nat) (m : Int) (w : World) (hat : (mkCT t m).At w v fp) (hm0 : 0 ≤ m) (hm1 : m + 3 * t.cnt ≤ 1073741824) :
    Calls Try.prog 17 #[v, .int .i64 m] w fun e w' => e = .returned (.int .i64 (m + 3 * t.cnt)) ∧ Below w.heap.size w w' := by
  obtain ⟨k, g, l, ts, rfl⟩ := t.shape
  obtain ⟨s, rfl, hs⟩ := Co.at_mk.1 hat
  have hal : Below w.heap.size w (w.alloc (Obj.cells #[.int .i64 k, .int .i64 g, .int .i64 l, s] 44)) := (Below.refl _ _).alloc (Nat.le_refl _) _
  have HC := hid (ccnt_any k g l 0 0 0 ts)
  have HM := hid hm1
  have HAL := hid hal
  have hp : 0 ≤ m + 3 * ((Co.mk 0 0 0 ts).cnt : Int) := by omega
  clear hm1 hal
  go_enter Try.func17, Try.ntmps17
  go_wp2_with fail
  refine (heldCoerS_any ts s fp m _ (hs.below HAL.out) hm0 (by have := HM.out; have := HC.out; omega)).mono ?_
  rintro e w1 ⟨rfl, hb1⟩
  have hbb := below_trans HAL.out hb1
  go_wp2_with fail
  go_ret
  exact ⟨ret_i (by rw [HC.out]), hbb⟩

end Go.Proofs.Ytgekfnodmgkdaaa

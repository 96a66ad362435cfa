/- markType, heldTypeS and heldType. -/
import Derived.Test.YtephhhnoobkbhaaMark
namespace Go.Proofs.Ytephhhnoobkbhaa
open Go.RowKit

/-- A tree with all nodes below the root marked. -/
def mkT : Ty → Int → Ty
  | .mk k ts, m => .mk k (mkL ts m)

set_option maxHeartbeats 400000 in
theorem markType_any (t : Ty) (v : Value) (fp : List Nat) (m : Int) (w : World) (hat : t.At w v fp) (hnd : fp.Nodup) (hfz : ∀ b ∈ fp, ∀ o, w.frozen? ⟨b, o, none⟩ = false) (hm0 : 0 ≤ m) (hm1 : m + t.cnt ≤ 1073741824) :
    Calls Try.prog 19 #[v, .int .i64 m] w fun e w' => e = .returned (.int .i64 (m + t.cnt)) ∧ (mkT t m).At w' v fp ∧ Only fp w w' := by
  obtain ⟨k, ts, rfl⟩ := t.shape
  obtain ⟨s, rfl, hs⟩ := Ty.at_mk.1 hat
  have hal : Below w.heap.size w (w.alloc (Obj.cells #[.int .i64 k, s] 28)) := (Below.refl _ _).alloc (Nat.le_refl _) _
  have hlt := hs.lt
  have HC := hid (cnt_any k 0 ts)
  have HB : (Ty.mk 0 ts).cnt = (Ty.mk k ts).cnt := cnt_any _ _ _
  have HM := hid hm1
  have HZ := hid hfz
  have HAL := hid hal
  clear hm1 hfz hal
  go_enter Try.func19, Try.ntmps19
  go_wp2_with fail
  refine (markTypeS_any ts s fp m _ (hs.below HAL.out) hnd (fun b hb o => (HAL.out.frozen (p := ⟨b, o, none⟩) (hlt b hb)).trans (HZ.out b hb o)) hm0 (by have := HM.out; omega)).mono ?_
  rintro e w1 ⟨rfl, hs1, hon⟩
  have HON := hid ((only_of_below HAL.out).trans hon)
  have HS1 := hid hs1
  clear hs1 hon
  go_wp2_with fail
  go_ret
  exact ⟨ret_i (by rw [HC.out]), Ty.at_mk.2 ⟨_, rfl, HS1.out⟩, HON.out⟩

def HeC (ts : List Ty) : Prop := ∀ (s : Value) (fp : List Nat) (m : Int) (w : World), SlAt w (mkL ts m) s fp → 0 ≤ m → m + (Ty.mk 0 ts).cnt ≤ 1073741824 →
  Calls Try.prog 60 #[s, .int .i64 m] w fun e w' => e = .returned (.int .i64 (m + (Ty.mk 0 ts).cnt)) ∧ Below w.heap.size w w'

set_option maxHeartbeats 1600000 in
theorem heldTypeS_of (ts : List Ty) (ih : ∀ t ∈ ts, HeC (kidsT t)) : HeC ts := by
  intro s fp m w hs hm0 hm1
  have HIH := hid ih
  clear ih
  obtain ⟨a, cap, rfl, hc, hm, hget⟩ := hs.openA
  have HG := hid hget
  rw [mkL_len] at hc hm
  have hlen := mkL_len ts m
  have HL := hid hlen
  have hcnt := off_all ts
  have hbd := off_bd ts
  have HCNT := hid hcnt
  have HBD := hid hbd
  have HM1 := hid hm1
  clear hget hcnt hbd hs hm1
  rw [hlen]
  clear hlen
  go_enter Try.func60, Try.ntmps60
  go_wp2_with fail
  go_loopw [1, 5] (fun k i wr => ∃ j : Nat, j ≤ ts.length ∧ i = .int .i64 j ∧ k = .int .i64 (m + off ts j) ∧ Below w.heap.size w wr)
    (fun _ i _ => ts.length - (intOf i).toNat)
  case atStart => exact ⟨0, Nat.zero_le _, rfl, by cases ts <;> simp [off], Below.refl _ _⟩
  case round =>
    obtain ⟨j, hj, rfl, rfl, hb⟩ := hrel
    by_cases hlk : j < ts.length
    · have hlk' : j < (mkL ts m).length := by rw [HL.out]; exact hlk
      obtain ⟨b, o, k1, n1, a1, cap1, g1, rfl, hblt, c0, c1, hat, hf⟩ := HG.out j hlk'
      rw [mkL_get hlk hlk'] at hat
      obtain ⟨s', hv, hs'⟩ := Ty.at_mk.1 hat
      simp only [Value.agg.injEq, Array.mk.injEq, List.cons.injEq, and_true, Value.int.injEq, true_and] at hv
      obtain ⟨rfl, rfl⟩ := hv
      have d0 := (hb.cell (p := ⟨b, o + j * 2, none⟩) hblt).trans c0
      have d1 := (hb.cell (p := ⟨b, o + j * 2 + 1, none⟩) hblt).trans c1
      have hofs := off_succ hlk
      have hb0 := (HBD.out j)
      have hb1 := (HBD.out (j + 1))
      have hk1 : 0 ≤ m + off ts j ∧ m + off ts j + 1 ≤ 1073741824 := by have := HM1.out; have := HCNT.out; omega
      obtain ⟨hk1a, hk1b⟩ := hk1
      have hck := cnt_kids ts[j]
      have hk2 : 0 ≤ m + off ts j + 1 + ((Ty.mk 0 (kidsT ts[j])).cnt : Int) := by omega
      have hk3 : m + off ts j + 1 + ((Ty.mk 0 (kidsT ts[j])).cnt : Int) ≤ 1073741824 := by have := HM1.out; have := HCNT.out; omega
      have HOF := hid hofs
      have HCK := hid hck
      have HK3 := hid hk3
      clear c0 c1 hofs hb0 hb1 hck hk3
      go_wp2_with fail
      refine (HIH.out _ (List.getElem_mem hlk) _ _ _ _ (hs'.below hb) (by omega) HK3.out).mono ?_
      rintro e w1 ⟨rfl, hb1⟩
      have hbb := below_trans hb hb1
      clear hb hb1 hat hs' d0 d1
      go_wp2_with fail
      go_roundw
      case rel =>
        refine ⟨j + 1, by omega, by go_num, ?_, hbb⟩
        rw [HOF.out, HCK.out]
        congr 1
        omega
      case measure => simp [intOf]; omega
    · have hjl : j = ts.length := by omega
      go_wp2_with fail
      go_ret
      exact ⟨ret_i (by rw [hjl, HCNT.out]), hb⟩

theorem heldTypeS_any (ts : List Ty) : HeC ts := by
  have h : ∀ t : Ty, HeC (kidsT t) := Ty.ind fun k ts ih => heldTypeS_of ts ih
  exact h (.mk 0 ts)

set_option maxHeartbeats 400000 in
theorem heldType_any (t : Ty) (v : Value) (fp : List Nat) (m : Int) (w : World) (hat : (mkT t m).At w v fp) (hm0 : 0 ≤ m) (hm1 : m + t.cnt ≤ 1073741824) :
    Calls Try.prog 20 #[v, .int .i64 m] w fun e w' => e = .returned (.int .i64 (m + t.cnt)) ∧ Below w.heap.size w w' := by
  obtain ⟨k, ts, rfl⟩ := t.shape
  obtain ⟨s, rfl, hs⟩ := Ty.at_mk.1 hat
  have hal : Below w.heap.size w (w.alloc (Obj.cells #[.int .i64 k, s] 28)) := (Below.refl _ _).alloc (Nat.le_refl _) _
  have HC := hid (cnt_any k 0 ts)
  have HB : (Ty.mk 0 ts).cnt = (Ty.mk k ts).cnt := cnt_any _ _ _
  have HM := hid hm1
  have HAL := hid hal
  have hp : 0 ≤ m + ((Ty.mk 0 ts).cnt : Int) := by omega
  clear hm1 hal
  go_enter Try.func20, Try.ntmps20
  go_wp2_with fail
  refine (heldTypeS_any ts s fp m _ (hs.below HAL.out) hm0 (by have := HM.out; omega)).mono ?_
  rintro e w1 ⟨rfl, hb1⟩
  have hbb := below_trans HAL.out hb1
  go_wp2_with fail
  go_ret
  exact ⟨ret_i (by rw [HC.out]), hbb⟩

end Go.Proofs.Ytephhhnoobkbhaa

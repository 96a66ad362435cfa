/- markCoercion, heldCoercionS and heldCoercion; memory apart. -/
import Derived.Test.YtgiimijooabioaaCMk
import Derived.Test.YtgiimijooabioaaPkA
namespace Go.Proofs.Ytgiimijooabioaa
open Go.RowKit

theorem Co.At.only {w w' : World} {f g : List Nat} {t : Co} {v : Value} (h : t.At w v g) (hon : Only f w w') (hd : ∀ b ∈ g, b ∉ f) : t.At w' v g :=
  h.congr fun b hb o => World.cell?_of_block (w := w) (a := ⟨b, o, none⟩) (hon.block b (h.lt b hb) (hd b hb))

theorem Co.At.within {w : World} {t : Co} {v : Value} {f : List Nat} (h : t.At w v f) : Within 0 w.heap.size f := fun b hb => ⟨Nat.zero_le _, h.lt b hb⟩

/-- A coercion with all nodes below the root marked. -/
def mkCT : Co → Int → Co
  | .mk k g l ts, m => .mk k g l (mkCL ts m)

set_option maxHeartbeats 400000 in
theorem markCoer_any (t : Co) (v : Value) (fp : List Nat) (m : Int) (w : World) (hat : t.At w v fp) (hnd : fp.Nodup) (hfz : ∀ b ∈ fp, ∀ o, w.frozen? ⟨b, o, none⟩ = false) (hm0 : 0 ≤ m) (hm1 : m + 3 * t.cnt ≤ 1073741824) :
    Calls Try.prog 22 #[v, .int .i64 m] w fun e w' => e = .returned (.int .i64 (m + 3 * t.cnt)) ∧ (mkCT t m).At w' v fp ∧ Only fp w w' := by
  obtain ⟨k, g, l, ts, rfl⟩ := t.shape
  obtain ⟨s, rfl, hs⟩ := Co.at_mk.1 hat
  have hal : Below w.heap.size w (w.alloc (Obj.cells #[.int .i64 k, .int .i64 g, .int .i64 l, s] 40)) := (Below.refl _ _).alloc (Nat.le_refl _) _
  have hlt := hs.lt
  have HC := hid (ccnt_any k g l 0 0 0 ts)
  have HM := hid hm1
  have HZ := hid hfz
  have HAL := hid hal
  clear hm1 hfz hal
  go_enter Try.func22, Try.ntmps22
  go_wp2_with fail
  refine (markCoerS_any ts s fp m _ (hs.below HAL.out) hnd (fun b hb o => (HAL.out.frozen (p := ⟨b, o, none⟩) (hlt b hb)).trans (HZ.out b hb o)) hm0 (by have := HM.out; have := HC.out; omega)).mono ?_
  rintro e w1 ⟨rfl, hs1, hon⟩
  have HON := hid ((only_of_below HAL.out).trans hon)
  have HS1 := hid hs1
  clear hs1 hon
  go_wp2_with fail
  go_ret
  exact ⟨ret_i (by rw [HC.out]), Co.at_mk.2 ⟨_, rfl, HS1.out⟩, HON.out⟩

end Go.Proofs.Ytgiimijooabioaa

/- CoercionTyped of both sides. -/
import Derived.Test.YtephhhnoobkbhaaTpi
import Derived.Test.YtephhhnoobkbhaaTps
import Derived.Test.YtephhhnoobkbhaaCv6
import Derived.Test.YtephhhnoobkbhaaCw6
import Derived.Test.YtephhhnoobkbhaaShape
import Derived.Test.YtephhhnoobkbhaaVld
namespace Go.Proofs.Ytephhhnoobkbhaa
open Go.RowKit

/-- The document's CoercionTyped. -/
def ctyp (c : Co) (f t : Ty) : Bool := vldC c && (vld f && (vld t && typC 9 c f t))

set_option maxRecDepth 100000 in
set_option maxHeartbeats 4000000 in
theorem specCoercionTyped_any (c : Co) (f t : Ty) (vc vf vt : Value) (fc ff ft : List Nat) (w : World) (hatc : c.At w vc fc) (hatf : f.At w vf ff) (hatt : t.At w vt ft) :
    Calls Try.prog 41 #[vc, vf, vt] w fun e w' => e = .returned (.bool (ctyp c f t)) ∧ Below w.heap.size w w' := by
  obtain ⟨kc, g, l, nc, ac, cc, rfl⟩ := hatc.agg
  obtain ⟨kf, nf, af, cf, rfl⟩ := hatf.agg
  obtain ⟨kt, nt, at', ct, rfl⟩ := hatt.agg
  have hb0 : Below w.heap.size w (((w.alloc (Obj.cells #[.int .i64 kc, .int .i64 g, .int .i64 l, .slice ac nc cc] 52)).alloc (Obj.cells #[.int .i64 kf, .slice af nf cf] 28)).alloc (Obj.cells #[.int .i64 kt, .slice at' nt ct] 28)) := (((Below.refl _ _).alloc (Nat.le_refl _) _).alloc (by simp) _).alloc (by simp; omega) _
  obtain ⟨bC, bF, bT⟩ := three3 (Below.refl ((((w.alloc (Obj.cells #[.int .i64 kc, .int .i64 g, .int .i64 l, .slice ac nc cc] 52)).alloc (Obj.cells #[.int .i64 kf, .slice af nf cf] 28)).alloc (Obj.cells #[.int .i64 kt, .slice at' nt ct] 28))).heap.size (((w.alloc (Obj.cells #[.int .i64 kc, .int .i64 g, .int .i64 l, .slice ac nc cc] 52)).alloc (Obj.cells #[.int .i64 kf, .slice af nf cf] 28)).alloc (Obj.cells #[.int .i64 kt, .slice at' nt ct] 28)))
  have xC0 : ((((w.alloc (Obj.cells #[.int .i64 kc, .int .i64 g, .int .i64 l, .slice ac nc cc] 52)).alloc (Obj.cells #[.int .i64 kf, .slice af nf cf] 28)).alloc (Obj.cells #[.int .i64 kt, .slice at' nt ct] 28))).cell? ⟨w.heap.size, 0, none⟩ = some (.int .i64 kc) := by rw [cell_of_block bC]; rfl
  have xC1 : ((((w.alloc (Obj.cells #[.int .i64 kc, .int .i64 g, .int .i64 l, .slice ac nc cc] 52)).alloc (Obj.cells #[.int .i64 kf, .slice af nf cf] 28)).alloc (Obj.cells #[.int .i64 kt, .slice at' nt ct] 28))).cell? ⟨w.heap.size, 1, none⟩ = some (.int .i64 g) := by rw [cell_of_block bC]; rfl
  have xC2 : ((((w.alloc (Obj.cells #[.int .i64 kc, .int .i64 g, .int .i64 l, .slice ac nc cc] 52)).alloc (Obj.cells #[.int .i64 kf, .slice af nf cf] 28)).alloc (Obj.cells #[.int .i64 kt, .slice at' nt ct] 28))).cell? ⟨w.heap.size, 2, none⟩ = some (.int .i64 l) := by rw [cell_of_block bC]; rfl
  have xC3 : ((((w.alloc (Obj.cells #[.int .i64 kc, .int .i64 g, .int .i64 l, .slice ac nc cc] 52)).alloc (Obj.cells #[.int .i64 kf, .slice af nf cf] 28)).alloc (Obj.cells #[.int .i64 kt, .slice at' nt ct] 28))).cell? ⟨w.heap.size, 3, none⟩ = some (.slice ac nc cc) := by rw [cell_of_block bC]; rfl
  have xF0 : ((((w.alloc (Obj.cells #[.int .i64 kc, .int .i64 g, .int .i64 l, .slice ac nc cc] 52)).alloc (Obj.cells #[.int .i64 kf, .slice af nf cf] 28)).alloc (Obj.cells #[.int .i64 kt, .slice at' nt ct] 28))).cell? ⟨w.heap.size + 1, 0, none⟩ = some (.int .i64 kf) := by rw [cell_of_block bF]; rfl
  have xF1 : ((((w.alloc (Obj.cells #[.int .i64 kc, .int .i64 g, .int .i64 l, .slice ac nc cc] 52)).alloc (Obj.cells #[.int .i64 kf, .slice af nf cf] 28)).alloc (Obj.cells #[.int .i64 kt, .slice at' nt ct] 28))).cell? ⟨w.heap.size + 1, 1, none⟩ = some (.slice af nf cf) := by rw [cell_of_block bF]; rfl
  have xT0 : ((((w.alloc (Obj.cells #[.int .i64 kc, .int .i64 g, .int .i64 l, .slice ac nc cc] 52)).alloc (Obj.cells #[.int .i64 kf, .slice af nf cf] 28)).alloc (Obj.cells #[.int .i64 kt, .slice at' nt ct] 28))).cell? ⟨w.heap.size + 1 + 1, 0, none⟩ = some (.int .i64 kt) := by rw [cell_of_block bT]; rfl
  have xT1 : ((((w.alloc (Obj.cells #[.int .i64 kc, .int .i64 g, .int .i64 l, .slice ac nc cc] 52)).alloc (Obj.cells #[.int .i64 kf, .slice af nf cf] 28)).alloc (Obj.cells #[.int .i64 kt, .slice at' nt ct] 28))).cell? ⟨w.heap.size + 1 + 1, 1, none⟩ = some (.slice at' nt ct) := by rw [cell_of_block bT]; rfl
  clear bC bF bT
  have H := hid (And.intro (hatc.below hb0) (And.intro (hatf.below hb0) (hatt.below hb0)))
  clear hatc hatf hatt
  cases h0 : vldC c with
  | false =>
    have HT := hid (show ctyp c f t = false by simp [ctyp, h0])
    have HV0 := hid h0
    clear h0
    go_enter Try.func41, Try.ntmps41
    go_wp2_with fail
    refine (specCoercionValid_any c _ _ _ (H.out.1.below (Below.refl ((((w.alloc (Obj.cells #[.int .i64 kc, .int .i64 g, .int .i64 l, .slice ac nc cc] 52)).alloc (Obj.cells #[.int .i64 kf, .slice af nf cf] 28)).alloc (Obj.cells #[.int .i64 kt, .slice at' nt ct] 28))).heap.size (((w.alloc (Obj.cells #[.int .i64 kc, .int .i64 g, .int .i64 l, .slice ac nc cc] 52)).alloc (Obj.cells #[.int .i64 kf, .slice af nf cf] 28)).alloc (Obj.cells #[.int .i64 kt, .slice at' nt ct] 28))))).mono ?_
    rw [HV0.out]
    rintro e w1 ⟨rfl, hb1⟩
    have hk0 := below_trans (Below.refl ((((w.alloc (Obj.cells #[.int .i64 kc, .int .i64 g, .int .i64 l, .slice ac nc cc] 52)).alloc (Obj.cells #[.int .i64 kf, .slice af nf cf] 28)).alloc (Obj.cells #[.int .i64 kt, .slice at' nt ct] 28))).heap.size (((w.alloc (Obj.cells #[.int .i64 kc, .int .i64 g, .int .i64 l, .slice ac nc cc] 52)).alloc (Obj.cells #[.int .i64 kf, .slice af nf cf] 28)).alloc (Obj.cells #[.int .i64 kt, .slice at' nt ct] 28))) hb1
    go_wp2_with fail
    go_ret
    exact ⟨ret_b HT.out.symm, below_trans hb0 hk0⟩
  | true =>
    have HV0 := hid h0
    cases h1 : vld f with
    | false =>
      have HT := hid (show ctyp c f t = false by simp [ctyp, h1])
      have HV1 := hid h1
      clear h0 h1
      go_enter Try.func41, Try.ntmps41
      go_wp2_with fail
      refine (specCoercionValid_any c _ _ _ (H.out.1.below (Below.refl ((((w.alloc (Obj.cells #[.int .i64 kc, .int .i64 g, .int .i64 l, .slice ac nc cc] 52)).alloc (Obj.cells #[.int .i64 kf, .slice af nf cf] 28)).alloc (Obj.cells #[.int .i64 kt, .slice at' nt ct] 28))).heap.size (((w.alloc (Obj.cells #[.int .i64 kc, .int .i64 g, .int .i64 l, .slice ac nc cc] 52)).alloc (Obj.cells #[.int .i64 kf, .slice af nf cf] 28)).alloc (Obj.cells #[.int .i64 kt, .slice at' nt ct] 28))))).mono ?_
      rw [HV0.out]
      rintro e w1 ⟨rfl, hb1⟩
      have hk0 := below_trans (Below.refl ((((w.alloc (Obj.cells #[.int .i64 kc, .int .i64 g, .int .i64 l, .slice ac nc cc] 52)).alloc (Obj.cells #[.int .i64 kf, .slice af nf cf] 28)).alloc (Obj.cells #[.int .i64 kt, .slice at' nt ct] 28))).heap.size (((w.alloc (Obj.cells #[.int .i64 kc, .int .i64 g, .int .i64 l, .slice ac nc cc] 52)).alloc (Obj.cells #[.int .i64 kf, .slice af nf cf] 28)).alloc (Obj.cells #[.int .i64 kt, .slice at' nt ct] 28))) hb1
      replace xC0 := cell_keep xC0 hb1
      replace xC1 := cell_keep xC1 hb1
      replace xC2 := cell_keep xC2 hb1
      replace xC3 := cell_keep xC3 hb1
      replace xF0 := cell_keep xF0 hb1
      replace xF1 := cell_keep xF1 hb1
      replace xT0 := cell_keep xT0 hb1
      replace xT1 := cell_keep xT1 hb1
      go_wp2_with fail
      refine (specTypeValid_any f _ _ _ (H.out.2.1.below hk0)).mono ?_
      rw [HV1.out]
      rintro e w2 ⟨rfl, hb2⟩
      have hk1 := below_trans hk0 hb2
      go_wp2_with fail
      go_ret
      exact ⟨ret_b HT.out.symm, below_trans hb0 hk1⟩
    | true =>
      have HV1 := hid h1
      cases h2 : vld t with
      | false =>
        have HT := hid (show ctyp c f t = false by simp [ctyp, h2])
        have HV2 := hid h2
        clear h0 h1 h2
        go_enter Try.func41, Try.ntmps41
        go_wp2_with fail
        refine (specCoercionValid_any c _ _ _ (H.out.1.below (Below.refl ((((w.alloc (Obj.cells #[.int .i64 kc, .int .i64 g, .int .i64 l, .slice ac nc cc] 52)).alloc (Obj.cells #[.int .i64 kf, .slice af nf cf] 28)).alloc (Obj.cells #[.int .i64 kt, .slice at' nt ct] 28))).heap.size (((w.alloc (Obj.cells #[.int .i64 kc, .int .i64 g, .int .i64 l, .slice ac nc cc] 52)).alloc (Obj.cells #[.int .i64 kf, .slice af nf cf] 28)).alloc (Obj.cells #[.int .i64 kt, .slice at' nt ct] 28))))).mono ?_
        rw [HV0.out]
        rintro e w1 ⟨rfl, hb1⟩
        have hk0 := below_trans (Below.refl ((((w.alloc (Obj.cells #[.int .i64 kc, .int .i64 g, .int .i64 l, .slice ac nc cc] 52)).alloc (Obj.cells #[.int .i64 kf, .slice af nf cf] 28)).alloc (Obj.cells #[.int .i64 kt, .slice at' nt ct] 28))).heap.size (((w.alloc (Obj.cells #[.int .i64 kc, .int .i64 g, .int .i64 l, .slice ac nc cc] 52)).alloc (Obj.cells #[.int .i64 kf, .slice af nf cf] 28)).alloc (Obj.cells #[.int .i64 kt, .slice at' nt ct] 28))) hb1
        replace xC0 := cell_keep xC0 hb1
        replace xC1 := cell_keep xC1 hb1
        replace xC2 := cell_keep xC2 hb1
        replace xC3 := cell_keep xC3 hb1
        replace xF0 := cell_keep xF0 hb1
        replace xF1 := cell_keep xF1 hb1
        replace xT0 := cell_keep xT0 hb1
        replace xT1 := cell_keep xT1 hb1
        go_wp2_with fail
        refine (specTypeValid_any f _ _ _ (H.out.2.1.below hk0)).mono ?_
        rw [HV1.out]
        rintro e w2 ⟨rfl, hb2⟩
        have hk1 := below_trans hk0 hb2
        replace xC0 := cell_keep xC0 hb2
        replace xC1 := cell_keep xC1 hb2
        replace xC2 := cell_keep xC2 hb2
        replace xC3 := cell_keep xC3 hb2
        replace xF0 := cell_keep xF0 hb2
        replace xF1 := cell_keep xF1 hb2
        replace xT0 := cell_keep xT0 hb2
        replace xT1 := cell_keep xT1 hb2
        go_wp2_with fail
        refine (specTypeValid_any t _ _ _ (H.out.2.2.below hk1)).mono ?_
        rw [HV2.out]
        rintro e w3 ⟨rfl, hb3⟩
        have hk2 := below_trans hk1 hb3
        go_wp2_with fail
        go_ret
        exact ⟨ret_b HT.out.symm, below_trans hb0 hk2⟩
      | true =>
        have HV2 := hid h2
        have HT := hid (show ctyp c f t = typC 9 c f t by simp [ctyp, h0, h1, h2])
        clear h0 h1 h2
        generalize hr : typC 9 c f t = r at *
        have HV3 := hid hr
        clear hr
        go_enter Try.func41, Try.ntmps41
        go_wp2_with fail
        refine (specCoercionValid_any c _ _ _ (H.out.1.below (Below.refl ((((w.alloc (Obj.cells #[.int .i64 kc, .int .i64 g, .int .i64 l, .slice ac nc cc] 52)).alloc (Obj.cells #[.int .i64 kf, .slice af nf cf] 28)).alloc (Obj.cells #[.int .i64 kt, .slice at' nt ct] 28))).heap.size (((w.alloc (Obj.cells #[.int .i64 kc, .int .i64 g, .int .i64 l, .slice ac nc cc] 52)).alloc (Obj.cells #[.int .i64 kf, .slice af nf cf] 28)).alloc (Obj.cells #[.int .i64 kt, .slice at' nt ct] 28))))).mono ?_
        rw [HV0.out]
        rintro e w1 ⟨rfl, hb1⟩
        have hk0 := below_trans (Below.refl ((((w.alloc (Obj.cells #[.int .i64 kc, .int .i64 g, .int .i64 l, .slice ac nc cc] 52)).alloc (Obj.cells #[.int .i64 kf, .slice af nf cf] 28)).alloc (Obj.cells #[.int .i64 kt, .slice at' nt ct] 28))).heap.size (((w.alloc (Obj.cells #[.int .i64 kc, .int .i64 g, .int .i64 l, .slice ac nc cc] 52)).alloc (Obj.cells #[.int .i64 kf, .slice af nf cf] 28)).alloc (Obj.cells #[.int .i64 kt, .slice at' nt ct] 28))) hb1
        replace xC0 := cell_keep xC0 hb1
        replace xC1 := cell_keep xC1 hb1
        replace xC2 := cell_keep xC2 hb1
        replace xC3 := cell_keep xC3 hb1
        replace xF0 := cell_keep xF0 hb1
        replace xF1 := cell_keep xF1 hb1
        replace xT0 := cell_keep xT0 hb1
        replace xT1 := cell_keep xT1 hb1
        go_wp2_with fail
        refine (specTypeValid_any f _ _ _ (H.out.2.1.below hk0)).mono ?_
        rw [HV1.out]
        rintro e w2 ⟨rfl, hb2⟩
        have hk1 := below_trans hk0 hb2
        replace xC0 := cell_keep xC0 hb2
        replace xC1 := cell_keep xC1 hb2
        replace xC2 := cell_keep xC2 hb2
        replace xC3 := cell_keep xC3 hb2
        replace xF0 := cell_keep xF0 hb2
        replace xF1 := cell_keep xF1 hb2
        replace xT0 := cell_keep xT0 hb2
        replace xT1 := cell_keep xT1 hb2
        go_wp2_with fail
        refine (specTypeValid_any t _ _ _ (H.out.2.2.below hk1)).mono ?_
        rw [HV2.out]
        rintro e w3 ⟨rfl, hb3⟩
        have hk2 := below_trans hk1 hb3
        replace xC0 := cell_keep xC0 hb3
        replace xC1 := cell_keep xC1 hb3
        replace xC2 := cell_keep xC2 hb3
        replace xC3 := cell_keep xC3 hb3
        replace xF0 := cell_keep xF0 hb3
        replace xF1 := cell_keep xF1 hb3
        replace xT0 := cell_keep xT0 hb3
        replace xT1 := cell_keep xT1 hb3
        go_wp2_with fail
        refine (l6Typed_any 9 c f t _ _ _ _ _ _ _ HV0.out HV1.out HV2.out (H.out.1.below hk2) (H.out.2.1.below hk2) (H.out.2.2.below hk2)).mono ?_
        rw [HV3.out]
        rintro e w4 ⟨rfl, hb4⟩
        have hk3 := below_trans hk2 hb4
        go_wp2_with fail
        go_ret
        exact ⟨ret_b HT.out.symm, below_trans hb0 hk3⟩

set_option maxRecDepth 100000 in
set_option maxHeartbeats 4000000 in
theorem implCoercionTyped_any (c : Co) (f t : Ty) (vc vf vt : Value) (fc ff ft : List Nat) (w : World) (hatc : c.At w vc fc) (hatf : f.At w vf ff) (hatt : t.At w vt ft) :
    Calls Try.prog 42 #[vc, vf, vt] w fun e w' => e = .returned (.bool (ctyp c f t)) ∧ Below w.heap.size w w' := by
  obtain ⟨kc, g, l, nc, ac, cc, rfl⟩ := hatc.agg
  obtain ⟨kf, nf, af, cf, rfl⟩ := hatf.agg
  obtain ⟨kt, nt, at', ct, rfl⟩ := hatt.agg
  have hb0 : Below w.heap.size w (((w.alloc (Obj.cells #[.int .i64 kc, .int .i64 g, .int .i64 l, .slice ac nc cc] 52)).alloc (Obj.cells #[.int .i64 kf, .slice af nf cf] 28)).alloc (Obj.cells #[.int .i64 kt, .slice at' nt ct] 28)) := (((Below.refl _ _).alloc (Nat.le_refl _) _).alloc (by simp) _).alloc (by simp; omega) _
  obtain ⟨bC, bF, bT⟩ := three3 (Below.refl ((((w.alloc (Obj.cells #[.int .i64 kc, .int .i64 g, .int .i64 l, .slice ac nc cc] 52)).alloc (Obj.cells #[.int .i64 kf, .slice af nf cf] 28)).alloc (Obj.cells #[.int .i64 kt, .slice at' nt ct] 28))).heap.size (((w.alloc (Obj.cells #[.int .i64 kc, .int .i64 g, .int .i64 l, .slice ac nc cc] 52)).alloc (Obj.cells #[.int .i64 kf, .slice af nf cf] 28)).alloc (Obj.cells #[.int .i64 kt, .slice at' nt ct] 28)))
  have xC0 : ((((w.alloc (Obj.cells #[.int .i64 kc, .int .i64 g, .int .i64 l, .slice ac nc cc] 52)).alloc (Obj.cells #[.int .i64 kf, .slice af nf cf] 28)).alloc (Obj.cells #[.int .i64 kt, .slice at' nt ct] 28))).cell? ⟨w.heap.size, 0, none⟩ = some (.int .i64 kc) := by rw [cell_of_block bC]; rfl
  have xC1 : ((((w.alloc (Obj.cells #[.int .i64 kc, .int .i64 g, .int .i64 l, .slice ac nc cc] 52)).alloc (Obj.cells #[.int .i64 kf, .slice af nf cf] 28)).alloc (Obj.cells #[.int .i64 kt, .slice at' nt ct] 28))).cell? ⟨w.heap.size, 1, none⟩ = some (.int .i64 g) := by rw [cell_of_block bC]; rfl
  have xC2 : ((((w.alloc (Obj.cells #[.int .i64 kc, .int .i64 g, .int .i64 l, .slice ac nc cc] 52)).alloc (Obj.cells #[.int .i64 kf, .slice af nf cf] 28)).alloc (Obj.cells #[.int .i64 kt, .slice at' nt ct] 28))).cell? ⟨w.heap.size, 2, none⟩ = some (.int .i64 l) := by rw [cell_of_block bC]; rfl
  have xC3 : ((((w.alloc (Obj.cells #[.int .i64 kc, .int .i64 g, .int .i64 l, .slice ac nc cc] 52)).alloc (Obj.cells #[.int .i64 kf, .slice af nf cf] 28)).alloc (Obj.cells #[.int .i64 kt, .slice at' nt ct] 28))).cell? ⟨w.heap.size, 3, none⟩ = some (.slice ac nc cc) := by rw [cell_of_block bC]; rfl
  have xF0 : ((((w.alloc (Obj.cells #[.int .i64 kc, .int .i64 g, .int .i64 l, .slice ac nc cc] 52)).alloc (Obj.cells #[.int .i64 kf, .slice af nf cf] 28)).alloc (Obj.cells #[.int .i64 kt, .slice at' nt ct] 28))).cell? ⟨w.heap.size + 1, 0, none⟩ = some (.int .i64 kf) := by rw [cell_of_block bF]; rfl
  have xF1 : ((((w.alloc (Obj.cells #[.int .i64 kc, .int .i64 g, .int .i64 l, .slice ac nc cc] 52)).alloc (Obj.cells #[.int .i64 kf, .slice af nf cf] 28)).alloc (Obj.cells #[.int .i64 kt, .slice at' nt ct] 28))).cell? ⟨w.heap.size + 1, 1, none⟩ = some (.slice af nf cf) := by rw [cell_of_block bF]; rfl
  have xT0 : ((((w.alloc (Obj.cells #[.int .i64 kc, .int .i64 g, .int .i64 l, .slice ac nc cc] 52)).alloc (Obj.cells #[.int .i64 kf, .slice af nf cf] 28)).alloc (Obj.cells #[.int .i64 kt, .slice at' nt ct] 28))).cell? ⟨w.heap.size + 1 + 1, 0, none⟩ = some (.int .i64 kt) := by rw [cell_of_block bT]; rfl
  have xT1 : ((((w.alloc (Obj.cells #[.int .i64 kc, .int .i64 g, .int .i64 l, .slice ac nc cc] 52)).alloc (Obj.cells #[.int .i64 kf, .slice af nf cf] 28)).alloc (Obj.cells #[.int .i64 kt, .slice at' nt ct] 28))).cell? ⟨w.heap.size + 1 + 1, 1, none⟩ = some (.slice at' nt ct) := by rw [cell_of_block bT]; rfl
  clear bC bF bT
  have H := hid (And.intro (hatc.below hb0) (And.intro (hatf.below hb0) (hatt.below hb0)))
  clear hatc hatf hatt
  cases h0 : vldC c with
  | false =>
    have HT := hid (show ctyp c f t = false by simp [ctyp, h0])
    have HV0 := hid h0
    clear h0
    go_enter Try.func42, Try.ntmps42
    go_wp2_with fail
    refine (implCoercionValid_any c _ _ _ (H.out.1.below (Below.refl ((((w.alloc (Obj.cells #[.int .i64 kc, .int .i64 g, .int .i64 l, .slice ac nc cc] 52)).alloc (Obj.cells #[.int .i64 kf, .slice af nf cf] 28)).alloc (Obj.cells #[.int .i64 kt, .slice at' nt ct] 28))).heap.size (((w.alloc (Obj.cells #[.int .i64 kc, .int .i64 g, .int .i64 l, .slice ac nc cc] 52)).alloc (Obj.cells #[.int .i64 kf, .slice af nf cf] 28)).alloc (Obj.cells #[.int .i64 kt, .slice at' nt ct] 28))))).mono ?_
    rw [HV0.out]
    rintro e w1 ⟨rfl, hb1⟩
    have hk0 := below_trans (Below.refl ((((w.alloc (Obj.cells #[.int .i64 kc, .int .i64 g, .int .i64 l, .slice ac nc cc] 52)).alloc (Obj.cells #[.int .i64 kf, .slice af nf cf] 28)).alloc (Obj.cells #[.int .i64 kt, .slice at' nt ct] 28))).heap.size (((w.alloc (Obj.cells #[.int .i64 kc, .int .i64 g, .int .i64 l, .slice ac nc cc] 52)).alloc (Obj.cells #[.int .i64 kf, .slice af nf cf] 28)).alloc (Obj.cells #[.int .i64 kt, .slice at' nt ct] 28))) hb1
    go_wp2_with fail
    go_ret
    exact ⟨ret_b HT.out.symm, below_trans hb0 hk0⟩
  | true =>
    have HV0 := hid h0
    cases h1 : vld f with
    | false =>
      have HT := hid (show ctyp c f t = false by simp [ctyp, h1])
      have HV1 := hid h1
      clear h0 h1
      go_enter Try.func42, Try.ntmps42
      go_wp2_with fail
      refine (implCoercionValid_any c _ _ _ (H.out.1.below (Below.refl ((((w.alloc (Obj.cells #[.int .i64 kc, .int .i64 g, .int .i64 l, .slice ac nc cc] 52)).alloc (Obj.cells #[.int .i64 kf, .slice af nf cf] 28)).alloc (Obj.cells #[.int .i64 kt, .slice at' nt ct] 28))).heap.size (((w.alloc (Obj.cells #[.int .i64 kc, .int .i64 g, .int .i64 l, .slice ac nc cc] 52)).alloc (Obj.cells #[.int .i64 kf, .slice af nf cf] 28)).alloc (Obj.cells #[.int .i64 kt, .slice at' nt ct] 28))))).mono ?_
      rw [HV0.out]
      rintro e w1 ⟨rfl, hb1⟩
      have hk0 := below_trans (Below.refl ((((w.alloc (Obj.cells #[.int .i64 kc, .int .i64 g, .int .i64 l, .slice ac nc cc] 52)).alloc (Obj.cells #[.int .i64 kf, .slice af nf cf] 28)).alloc (Obj.cells #[.int .i64 kt, .slice at' nt ct] 28))).heap.size (((w.alloc (Obj.cells #[.int .i64 kc, .int .i64 g, .int .i64 l, .slice ac nc cc] 52)).alloc (Obj.cells #[.int .i64 kf, .slice af nf cf] 28)).alloc (Obj.cells #[.int .i64 kt, .slice at' nt ct] 28))) hb1
      replace xC0 := cell_keep xC0 hb1
      replace xC1 := cell_keep xC1 hb1
      replace xC2 := cell_keep xC2 hb1
      replace xC3 := cell_keep xC3 hb1
      replace xF0 := cell_keep xF0 hb1
      replace xF1 := cell_keep xF1 hb1
      replace xT0 := cell_keep xT0 hb1
      replace xT1 := cell_keep xT1 hb1
      go_wp2_with fail
      refine (implTypeValid_any f _ _ _ (H.out.2.1.below hk0)).mono ?_
      rw [HV1.out]
      rintro e w2 ⟨rfl, hb2⟩
      have hk1 := below_trans hk0 hb2
      go_wp2_with fail
      go_ret
      exact ⟨ret_b HT.out.symm, below_trans hb0 hk1⟩
    | true =>
      have HV1 := hid h1
      cases h2 : vld t with
      | false =>
        have HT := hid (show ctyp c f t = false by simp [ctyp, h2])
        have HV2 := hid h2
        clear h0 h1 h2
        go_enter Try.func42, Try.ntmps42
        go_wp2_with fail
        refine (implCoercionValid_any c _ _ _ (H.out.1.below (Below.refl ((((w.alloc (Obj.cells #[.int .i64 kc, .int .i64 g, .int .i64 l, .slice ac nc cc] 52)).alloc (Obj.cells #[.int .i64 kf, .slice af nf cf] 28)).alloc (Obj.cells #[.int .i64 kt, .slice at' nt ct] 28))).heap.size (((w.alloc (Obj.cells #[.int .i64 kc, .int .i64 g, .int .i64 l, .slice ac nc cc] 52)).alloc (Obj.cells #[.int .i64 kf, .slice af nf cf] 28)).alloc (Obj.cells #[.int .i64 kt, .slice at' nt ct] 28))))).mono ?_
        rw [HV0.out]
        rintro e w1 ⟨rfl, hb1⟩
        have hk0 := below_trans (Below.refl ((((w.alloc (Obj.cells #[.int .i64 kc, .int .i64 g, .int .i64 l, .slice ac nc cc] 52)).alloc (Obj.cells #[.int .i64 kf, .slice af nf cf] 28)).alloc (Obj.cells #[.int .i64 kt, .slice at' nt ct] 28))).heap.size (((w.alloc (Obj.cells #[.int .i64 kc, .int .i64 g, .int .i64 l, .slice ac nc cc] 52)).alloc (Obj.cells #[.int .i64 kf, .slice af nf cf] 28)).alloc (Obj.cells #[.int .i64 kt, .slice at' nt ct] 28))) hb1
        replace xC0 := cell_keep xC0 hb1
        replace xC1 := cell_keep xC1 hb1
        replace xC2 := cell_keep xC2 hb1
        replace xC3 := cell_keep xC3 hb1
        replace xF0 := cell_keep xF0 hb1
        replace xF1 := cell_keep xF1 hb1
        replace xT0 := cell_keep xT0 hb1
        replace xT1 := cell_keep xT1 hb1
        go_wp2_with fail
        refine (implTypeValid_any f _ _ _ (H.out.2.1.below hk0)).mono ?_
        rw [HV1.out]
        rintro e w2 ⟨rfl, hb2⟩
        have hk1 := below_trans hk0 hb2
        replace xC0 := cell_keep xC0 hb2
        replace xC1 := cell_keep xC1 hb2
        replace xC2 := cell_keep xC2 hb2
        replace xC3 := cell_keep xC3 hb2
        replace xF0 := cell_keep xF0 hb2
        replace xF1 := cell_keep xF1 hb2
        replace xT0 := cell_keep xT0 hb2
        replace xT1 := cell_keep xT1 hb2
        go_wp2_with fail
        refine (implTypeValid_any t _ _ _ (H.out.2.2.below hk1)).mono ?_
        rw [HV2.out]
        rintro e w3 ⟨rfl, hb3⟩
        have hk2 := below_trans hk1 hb3
        go_wp2_with fail
        go_ret
        exact ⟨ret_b HT.out.symm, below_trans hb0 hk2⟩
      | true =>
        have HV2 := hid h2
        have HT := hid (show ctyp c f t = typC 9 c f t by simp [ctyp, h0, h1, h2])
        clear h0 h1 h2
        generalize hr : typC 9 c f t = r at *
        have HV3 := hid hr
        clear hr
        go_enter Try.func42, Try.ntmps42
        go_wp2_with fail
        refine (implCoercionValid_any c _ _ _ (H.out.1.below (Below.refl ((((w.alloc (Obj.cells #[.int .i64 kc, .int .i64 g, .int .i64 l, .slice ac nc cc] 52)).alloc (Obj.cells #[.int .i64 kf, .slice af nf cf] 28)).alloc (Obj.cells #[.int .i64 kt, .slice at' nt ct] 28))).heap.size (((w.alloc (Obj.cells #[.int .i64 kc, .int .i64 g, .int .i64 l, .slice ac nc cc] 52)).alloc (Obj.cells #[.int .i64 kf, .slice af nf cf] 28)).alloc (Obj.cells #[.int .i64 kt, .slice at' nt ct] 28))))).mono ?_
        rw [HV0.out]
        rintro e w1 ⟨rfl, hb1⟩
        have hk0 := below_trans (Below.refl ((((w.alloc (Obj.cells #[.int .i64 kc, .int .i64 g, .int .i64 l, .slice ac nc cc] 52)).alloc (Obj.cells #[.int .i64 kf, .slice af nf cf] 28)).alloc (Obj.cells #[.int .i64 kt, .slice at' nt ct] 28))).heap.size (((w.alloc (Obj.cells #[.int .i64 kc, .int .i64 g, .int .i64 l, .slice ac nc cc] 52)).alloc (Obj.cells #[.int .i64 kf, .slice af nf cf] 28)).alloc (Obj.cells #[.int .i64 kt, .slice at' nt ct] 28))) hb1
        replace xC0 := cell_keep xC0 hb1
        replace xC1 := cell_keep xC1 hb1
        replace xC2 := cell_keep xC2 hb1
        replace xC3 := cell_keep xC3 hb1
        replace xF0 := cell_keep xF0 hb1
        replace xF1 := cell_keep xF1 hb1
        replace xT0 := cell_keep xT0 hb1
        replace xT1 := cell_keep xT1 hb1
        go_wp2_with fail
        refine (implTypeValid_any f _ _ _ (H.out.2.1.below hk0)).mono ?_
        rw [HV1.out]
        rintro e w2 ⟨rfl, hb2⟩
        have hk1 := below_trans hk0 hb2
        replace xC0 := cell_keep xC0 hb2
        replace xC1 := cell_keep xC1 hb2
        replace xC2 := cell_keep xC2 hb2
        replace xC3 := cell_keep xC3 hb2
        replace xF0 := cell_keep xF0 hb2
        replace xF1 := cell_keep xF1 hb2
        replace xT0 := cell_keep xT0 hb2
        replace xT1 := cell_keep xT1 hb2
        go_wp2_with fail
        refine (implTypeValid_any t _ _ _ (H.out.2.2.below hk1)).mono ?_
        rw [HV2.out]
        rintro e w3 ⟨rfl, hb3⟩
        have hk2 := below_trans hk1 hb3
        replace xC0 := cell_keep xC0 hb3
        replace xC1 := cell_keep xC1 hb3
        replace xC2 := cell_keep xC2 hb3
        replace xC3 := cell_keep xC3 hb3
        replace xF0 := cell_keep xF0 hb3
        replace xF1 := cell_keep xF1 hb3
        replace xT0 := cell_keep xT0 hb3
        replace xT1 := cell_keep xT1 hb3
        go_wp2_with fail
        refine (leads_any 9 c f t _ _ _ _ _ _ _ HV0.out HV1.out HV2.out (H.out.1.below hk2) (H.out.2.1.below hk2) (H.out.2.2.below hk2)).mono ?_
        rw [HV3.out]
        rintro e w4 ⟨rfl, hb4⟩
        have hk3 := below_trans hk2 hb4
        go_wp2_with fail
        go_ret
        exact ⟨ret_b HT.out.symm, below_trans hb0 hk3⟩

end Go.Proofs.Ytephhhnoobkbhaa

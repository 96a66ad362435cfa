/- CoercionTyped of both sides. CoercionIdentity, of the specification and of the program. The program's CoercionLabels: sorted, compacted. -/
import Derived.Deep.RegionLaw
import Derived.Test.YtolhfcpmhhhjpaaRTpi
import Derived.Test.YtolhfcpmhhhjpaaRG3
import Derived.Test.YtolhfcpmhhhjpaaRG1
import Derived.Test.YtolhfcpmhhhjpaaRCw6
import Derived.Test.YtolhfcpmhhhjpaaRPkA
namespace Go.Proofs.Ytolhfcpmhhhjpaa
open Go.RowKit

/-- The document's CoercionTyped. -/
def ctyp (c : Co) (f t : Ty) : Bool := vldK c && (vld f && (vld t && typC 9 c f t))

set_option maxRecDepth 100000 in
set_option maxHeartbeats 4000000 in
theorem implCoercionTyped_any (c : Co) (f t : Ty) (vc vf vt : Value) (fc ff ft : List Nat) (w : World) (hatc : c.At w vc fc) (hatf : f.At w vf ff) (hatt : t.At w vt ft) :
    Calls Try.prog 19 #[vc, vf, vt] w fun e w' => e = .returned (.bool (ctyp c f t)) ∧ Below w.heap.size w w' := by
  obtain ⟨kc, g, l, nc, ac, cc, rfl⟩ := hatc.agg
  obtain ⟨kf, nf, af, cf, rfl⟩ := hatf.agg
  obtain ⟨kt, nt, at', ct, rfl⟩ := hatt.agg
  have hb0 : Below w.heap.size w (((w.alloc (Obj.cells #[.int .i64 kc, .int .i64 g, .int .i64 l, .slice ac nc cc] 30)).alloc (Obj.cells #[.int .i64 kf, .slice af nf cf] 25)).alloc (Obj.cells #[.int .i64 kt, .slice at' nt ct] 25)) := (((Below.refl _ _).alloc (Nat.le_refl _) _).alloc (by simp) _).alloc (by simp; omega) _
  obtain ⟨bC, bF, bT⟩ := three3 (Below.refl ((((w.alloc (Obj.cells #[.int .i64 kc, .int .i64 g, .int .i64 l, .slice ac nc cc] 30)).alloc (Obj.cells #[.int .i64 kf, .slice af nf cf] 25)).alloc (Obj.cells #[.int .i64 kt, .slice at' nt ct] 25))).heap.size (((w.alloc (Obj.cells #[.int .i64 kc, .int .i64 g, .int .i64 l, .slice ac nc cc] 30)).alloc (Obj.cells #[.int .i64 kf, .slice af nf cf] 25)).alloc (Obj.cells #[.int .i64 kt, .slice at' nt ct] 25)))
  have xC0 : ((((w.alloc (Obj.cells #[.int .i64 kc, .int .i64 g, .int .i64 l, .slice ac nc cc] 30)).alloc (Obj.cells #[.int .i64 kf, .slice af nf cf] 25)).alloc (Obj.cells #[.int .i64 kt, .slice at' nt ct] 25))).cell? ⟨w.heap.size, 0, none⟩ = some (.int .i64 kc) := by rw [cell_of_block bC]; rfl
  have xC1 : ((((w.alloc (Obj.cells #[.int .i64 kc, .int .i64 g, .int .i64 l, .slice ac nc cc] 30)).alloc (Obj.cells #[.int .i64 kf, .slice af nf cf] 25)).alloc (Obj.cells #[.int .i64 kt, .slice at' nt ct] 25))).cell? ⟨w.heap.size, 1, none⟩ = some (.int .i64 g) := by rw [cell_of_block bC]; rfl
  have xC2 : ((((w.alloc (Obj.cells #[.int .i64 kc, .int .i64 g, .int .i64 l, .slice ac nc cc] 30)).alloc (Obj.cells #[.int .i64 kf, .slice af nf cf] 25)).alloc (Obj.cells #[.int .i64 kt, .slice at' nt ct] 25))).cell? ⟨w.heap.size, 2, none⟩ = some (.int .i64 l) := by rw [cell_of_block bC]; rfl
  have xC3 : ((((w.alloc (Obj.cells #[.int .i64 kc, .int .i64 g, .int .i64 l, .slice ac nc cc] 30)).alloc (Obj.cells #[.int .i64 kf, .slice af nf cf] 25)).alloc (Obj.cells #[.int .i64 kt, .slice at' nt ct] 25))).cell? ⟨w.heap.size, 3, none⟩ = some (.slice ac nc cc) := by rw [cell_of_block bC]; rfl
  have xF0 : ((((w.alloc (Obj.cells #[.int .i64 kc, .int .i64 g, .int .i64 l, .slice ac nc cc] 30)).alloc (Obj.cells #[.int .i64 kf, .slice af nf cf] 25)).alloc (Obj.cells #[.int .i64 kt, .slice at' nt ct] 25))).cell? ⟨w.heap.size + 1, 0, none⟩ = some (.int .i64 kf) := by rw [cell_of_block bF]; rfl
  have xF1 : ((((w.alloc (Obj.cells #[.int .i64 kc, .int .i64 g, .int .i64 l, .slice ac nc cc] 30)).alloc (Obj.cells #[.int .i64 kf, .slice af nf cf] 25)).alloc (Obj.cells #[.int .i64 kt, .slice at' nt ct] 25))).cell? ⟨w.heap.size + 1, 1, none⟩ = some (.slice af nf cf) := by rw [cell_of_block bF]; rfl
  have xT0 : ((((w.alloc (Obj.cells #[.int .i64 kc, .int .i64 g, .int .i64 l, .slice ac nc cc] 30)).alloc (Obj.cells #[.int .i64 kf, .slice af nf cf] 25)).alloc (Obj.cells #[.int .i64 kt, .slice at' nt ct] 25))).cell? ⟨w.heap.size + 1 + 1, 0, none⟩ = some (.int .i64 kt) := by rw [cell_of_block bT]; rfl
  have xT1 : ((((w.alloc (Obj.cells #[.int .i64 kc, .int .i64 g, .int .i64 l, .slice ac nc cc] 30)).alloc (Obj.cells #[.int .i64 kf, .slice af nf cf] 25)).alloc (Obj.cells #[.int .i64 kt, .slice at' nt ct] 25))).cell? ⟨w.heap.size + 1 + 1, 1, none⟩ = some (.slice at' nt ct) := by rw [cell_of_block bT]; rfl
  clear bC bF bT
  have H := hid (And.intro (hatc.below hb0) (And.intro (hatf.below hb0) (hatt.below hb0)))
  clear hatc hatf hatt
  cases h0 : vldK c with
  | false =>
    have HT := hid (show ctyp c f t = false by simp [ctyp, h0])
    have HV0 := hid h0
    clear h0
    go_enter Try.func19, Try.ntmps19
    go_wp2_with fail
    refine (implCoercionValid_any c _ _ _ (H.out.1.below (Below.refl ((((w.alloc (Obj.cells #[.int .i64 kc, .int .i64 g, .int .i64 l, .slice ac nc cc] 30)).alloc (Obj.cells #[.int .i64 kf, .slice af nf cf] 25)).alloc (Obj.cells #[.int .i64 kt, .slice at' nt ct] 25))).heap.size (((w.alloc (Obj.cells #[.int .i64 kc, .int .i64 g, .int .i64 l, .slice ac nc cc] 30)).alloc (Obj.cells #[.int .i64 kf, .slice af nf cf] 25)).alloc (Obj.cells #[.int .i64 kt, .slice at' nt ct] 25))))).mono ?_
    rw [HV0.out]
    rintro e w1 ⟨rfl, hb1⟩
    have hk0 := below_trans (Below.refl ((((w.alloc (Obj.cells #[.int .i64 kc, .int .i64 g, .int .i64 l, .slice ac nc cc] 30)).alloc (Obj.cells #[.int .i64 kf, .slice af nf cf] 25)).alloc (Obj.cells #[.int .i64 kt, .slice at' nt ct] 25))).heap.size (((w.alloc (Obj.cells #[.int .i64 kc, .int .i64 g, .int .i64 l, .slice ac nc cc] 30)).alloc (Obj.cells #[.int .i64 kf, .slice af nf cf] 25)).alloc (Obj.cells #[.int .i64 kt, .slice at' nt ct] 25))) hb1
    go_wp2_with fail
    go_ret
    exact ⟨ret_b HT.out.symm, below_trans hb0 hk0⟩
  | true =>
    have HV0 := hid h0
    cases h1 : vld f with
    | false =>
      have HT := hid (show ctyp c f t = false by simp [ctyp, h1])
      have HV1 := hid h1
      clear h0 h1
      go_enter Try.func19, Try.ntmps19
      go_wp2_with fail
      refine (implCoercionValid_any c _ _ _ (H.out.1.below (Below.refl ((((w.alloc (Obj.cells #[.int .i64 kc, .int .i64 g, .int .i64 l, .slice ac nc cc] 30)).alloc (Obj.cells #[.int .i64 kf, .slice af nf cf] 25)).alloc (Obj.cells #[.int .i64 kt, .slice at' nt ct] 25))).heap.size (((w.alloc (Obj.cells #[.int .i64 kc, .int .i64 g, .int .i64 l, .slice ac nc cc] 30)).alloc (Obj.cells #[.int .i64 kf, .slice af nf cf] 25)).alloc (Obj.cells #[.int .i64 kt, .slice at' nt ct] 25))))).mono ?_
      rw [HV0.out]
      rintro e w1 ⟨rfl, hb1⟩
      have hk0 := below_trans (Below.refl ((((w.alloc (Obj.cells #[.int .i64 kc, .int .i64 g, .int .i64 l, .slice ac nc cc] 30)).alloc (Obj.cells #[.int .i64 kf, .slice af nf cf] 25)).alloc (Obj.cells #[.int .i64 kt, .slice at' nt ct] 25))).heap.size (((w.alloc (Obj.cells #[.int .i64 kc, .int .i64 g, .int .i64 l, .slice ac nc cc] 30)).alloc (Obj.cells #[.int .i64 kf, .slice af nf cf] 25)).alloc (Obj.cells #[.int .i64 kt, .slice at' nt ct] 25))) hb1
      replace xC0 := cell_keep xC0 hb1
      replace xC1 := cell_keep xC1 hb1
      replace xC2 := cell_keep xC2 hb1
      replace xC3 := cell_keep xC3 hb1
      replace xF0 := cell_keep xF0 hb1
      replace xF1 := cell_keep xF1 hb1
      replace xT0 := cell_keep xT0 hb1
      replace xT1 := cell_keep xT1 hb1
      go_wp2_with fail
      refine (implTypeValid_any f _ _ _ (H.out.2.1.below hk0)).mono ?_
      rw [HV1.out]
      rintro e w2 ⟨rfl, hb2⟩
      have hk1 := below_trans hk0 hb2
      go_wp2_with fail
      go_ret
      exact ⟨ret_b HT.out.symm, below_trans hb0 hk1⟩
    | true =>
      have HV1 := hid h1
      cases h2 : vld t with
      | false =>
        have HT := hid (show ctyp c f t = false by simp [ctyp, h2])
        have HV2 := hid h2
        clear h0 h1 h2
        go_enter Try.func19, Try.ntmps19
        go_wp2_with fail
        refine (implCoercionValid_any c _ _ _ (H.out.1.below (Below.refl ((((w.alloc (Obj.cells #[.int .i64 kc, .int .i64 g, .int .i64 l, .slice ac nc cc] 30)).alloc (Obj.cells #[.int .i64 kf, .slice af nf cf] 25)).alloc (Obj.cells #[.int .i64 kt, .slice at' nt ct] 25))).heap.size (((w.alloc (Obj.cells #[.int .i64 kc, .int .i64 g, .int .i64 l, .slice ac nc cc] 30)).alloc (Obj.cells #[.int .i64 kf, .slice af nf cf] 25)).alloc (Obj.cells #[.int .i64 kt, .slice at' nt ct] 25))))).mono ?_
        rw [HV0.out]
        rintro e w1 ⟨rfl, hb1⟩
        have hk0 := below_trans (Below.refl ((((w.alloc (Obj.cells #[.int .i64 kc, .int .i64 g, .int .i64 l, .slice ac nc cc] 30)).alloc (Obj.cells #[.int .i64 kf, .slice af nf cf] 25)).alloc (Obj.cells #[.int .i64 kt, .slice at' nt ct] 25))).heap.size (((w.alloc (Obj.cells #[.int .i64 kc, .int .i64 g, .int .i64 l, .slice ac nc cc] 30)).alloc (Obj.cells #[.int .i64 kf, .slice af nf cf] 25)).alloc (Obj.cells #[.int .i64 kt, .slice at' nt ct] 25))) hb1
        replace xC0 := cell_keep xC0 hb1
        replace xC1 := cell_keep xC1 hb1
        replace xC2 := cell_keep xC2 hb1
        replace xC3 := cell_keep xC3 hb1
        replace xF0 := cell_keep xF0 hb1
        replace xF1 := cell_keep xF1 hb1
        replace xT0 := cell_keep xT0 hb1
        replace xT1 := cell_keep xT1 hb1
        go_wp2_with fail
        refine (implTypeValid_any f _ _ _ (H.out.2.1.below hk0)).mono ?_
        rw [HV1.out]
        rintro e w2 ⟨rfl, hb2⟩
        have hk1 := below_trans hk0 hb2
        replace xC0 := cell_keep xC0 hb2
        replace xC1 := cell_keep xC1 hb2
        replace xC2 := cell_keep xC2 hb2
        replace xC3 := cell_keep xC3 hb2
        replace xF0 := cell_keep xF0 hb2
        replace xF1 := cell_keep xF1 hb2
        replace xT0 := cell_keep xT0 hb2
        replace xT1 := cell_keep xT1 hb2
        go_wp2_with fail
        refine (implTypeValid_any t _ _ _ (H.out.2.2.below hk1)).mono ?_
        rw [HV2.out]
        rintro e w3 ⟨rfl, hb3⟩
        have hk2 := below_trans hk1 hb3
        go_wp2_with fail
        go_ret
        exact ⟨ret_b HT.out.symm, below_trans hb0 hk2⟩
      | true =>
        have HV2 := hid h2
        have HT := hid (show ctyp c f t = typC 9 c f t by simp [ctyp, h0, h1, h2])
        clear h0 h1 h2
        generalize hr : typC 9 c f t = r at *
        have HV3 := hid hr
        clear hr
        go_enter Try.func19, Try.ntmps19
        go_wp2_with fail
        refine (implCoercionValid_any c _ _ _ (H.out.1.below (Below.refl ((((w.alloc (Obj.cells #[.int .i64 kc, .int .i64 g, .int .i64 l, .slice ac nc cc] 30)).alloc (Obj.cells #[.int .i64 kf, .slice af nf cf] 25)).alloc (Obj.cells #[.int .i64 kt, .slice at' nt ct] 25))).heap.size (((w.alloc (Obj.cells #[.int .i64 kc, .int .i64 g, .int .i64 l, .slice ac nc cc] 30)).alloc (Obj.cells #[.int .i64 kf, .slice af nf cf] 25)).alloc (Obj.cells #[.int .i64 kt, .slice at' nt ct] 25))))).mono ?_
        rw [HV0.out]
        rintro e w1 ⟨rfl, hb1⟩
        have hk0 := below_trans (Below.refl ((((w.alloc (Obj.cells #[.int .i64 kc, .int .i64 g, .int .i64 l, .slice ac nc cc] 30)).alloc (Obj.cells #[.int .i64 kf, .slice af nf cf] 25)).alloc (Obj.cells #[.int .i64 kt, .slice at' nt ct] 25))).heap.size (((w.alloc (Obj.cells #[.int .i64 kc, .int .i64 g, .int .i64 l, .slice ac nc cc] 30)).alloc (Obj.cells #[.int .i64 kf, .slice af nf cf] 25)).alloc (Obj.cells #[.int .i64 kt, .slice at' nt ct] 25))) hb1
        replace xC0 := cell_keep xC0 hb1
        replace xC1 := cell_keep xC1 hb1
        replace xC2 := cell_keep xC2 hb1
        replace xC3 := cell_keep xC3 hb1
        replace xF0 := cell_keep xF0 hb1
        replace xF1 := cell_keep xF1 hb1
        replace xT0 := cell_keep xT0 hb1
        replace xT1 := cell_keep xT1 hb1
        go_wp2_with fail
        refine (implTypeValid_any f _ _ _ (H.out.2.1.below hk0)).mono ?_
        rw [HV1.out]
        rintro e w2 ⟨rfl, hb2⟩
        have hk1 := below_trans hk0 hb2
        replace xC0 := cell_keep xC0 hb2
        replace xC1 := cell_keep xC1 hb2
        replace xC2 := cell_keep xC2 hb2
        replace xC3 := cell_keep xC3 hb2
        replace xF0 := cell_keep xF0 hb2
        replace xF1 := cell_keep xF1 hb2
        replace xT0 := cell_keep xT0 hb2
        replace xT1 := cell_keep xT1 hb2
        go_wp2_with fail
        refine (implTypeValid_any t _ _ _ (H.out.2.2.below hk1)).mono ?_
        rw [HV2.out]
        rintro e w3 ⟨rfl, hb3⟩
        have hk2 := below_trans hk1 hb3
        replace xC0 := cell_keep xC0 hb3
        replace xC1 := cell_keep xC1 hb3
        replace xC2 := cell_keep xC2 hb3
        replace xC3 := cell_keep xC3 hb3
        replace xF0 := cell_keep xF0 hb3
        replace xF1 := cell_keep xF1 hb3
        replace xT0 := cell_keep xT0 hb3
        replace xT1 := cell_keep xT1 hb3
        go_wp2_with fail
        refine (leads_any 9 c f t _ _ _ _ _ _ _ HV0.out HV1.out HV2.out (H.out.1.below hk2) (H.out.2.1.below hk2) (H.out.2.2.below hk2)).mono ?_
        rw [HV3.out]
        rintro e w4 ⟨rfl, hb4⟩
        have hk3 := below_trans hk2 hb4
        go_wp2_with fail
        go_ret
        exact ⟨ret_b HT.out.symm, below_trans hb0 hk3⟩

end Go.Proofs.Ytolhfcpmhhhjpaa

namespace Go.Proofs.Ytolhfcpmhhhjpaa
open Go.RowKit

/-- The document's CoercionIdentity. -/
def idV (t : Co) : Bool := vldK t && idC t

/-- The program's visit. -/
def idStep (r : Bool) : Co → Bool
  | .mk k _ _ _ => r && (k == 1 || (k == 2 || k == 3))

mutual
theorem idN_eq : ∀ (t : Co) (r : Bool), ccN idStep r t = (r && idC t)
  | .mk k g l ts, r => by simp only [ccN, idStep, idC, idL_eq ts, Bool.and_assoc]
theorem idL_eq : ∀ (ts : List Co) (r : Bool), ccL idStep r ts = (r && idL ts)
  | [], r => by simp [ccL, idL]
  | t :: ts, r => by simp only [ccL, idL, idN_eq t, idL_eq ts, Bool.and_assoc]
end

def StB (M : Nat) (r : Bool) (v : Value) (w : World) : Prop := v = .bool r ∧ w.heap[M]? = some (.cells #[.bool r] 4 (0, 0))

theorem callOk_id : CallOkT 52 := fun _ _ => by kernel_rfl

theorem lr_cell {M : Nat} {w w0 : World} {r x : Bool} (hb : Below w.heap.size w w0) (hM : w.heap[M]? = some (.cells #[.bool r] 4 (0, 0))) :
    StB M x (.bool x) (w0.setCell ⟨M, 0, none⟩ (.bool x)) ∧ Lr M w (w0.setCell ⟨M, 0, none⟩ (.bool x)) (.bool r) (.bool x) :=
  ⟨⟨rfl, heap_setCell_at (blk hM hb) _⟩, ⟨⟨hb.os, hb.tape, hb.output, by rw [size_setCell]; exact hb.size⟩, fun k hk hkM _ => (Below.heap_setCell _ _ _ _ hkM).trans (hb.block k hk), .inl rfl⟩⟩

theorem lr_cell2 {M : Nat} {w : World} {o : Obj} {r x : Bool} (hM : w.heap[M]? = some (.cells #[.bool r] 4 (0, 0))) :
    StB M x (.bool x) ((w.setCell ⟨M, 0, none⟩ (.bool x)).alloc o) ∧ Lr M w ((w.setCell ⟨M, 0, none⟩ (.bool x)).alloc o) (.bool r) (.bool x) := by
  have h1 := lr_cell (x := x) (Below.refl _ w) hM
  have hb : Below (w.setCell ⟨M, 0, none⟩ (.bool x)).heap.size (w.setCell ⟨M, 0, none⟩ (.bool x)) ((w.setCell ⟨M, 0, none⟩ (.bool x)).alloc o) := (Below.refl _ _).alloc (Nat.le_refl _) _
  exact ⟨⟨rfl, blk h1.1.2 hb⟩, h1.2.trans (Lr.of_below hb _)⟩

set_option maxHeartbeats 1000000 in
theorem visitId (M : Nat) : CVis 52 #[.pointer (some ⟨M, 0, none⟩)] M (M + 1) (StB M) (fun _ => 0) idStep := by
  intro r v k g l ts a3 c3 fp w hS hat hlt hBw _
  obtain ⟨rfl, hO⟩ := hS
  have hb0 : Below w.heap.size w (w.alloc (Obj.cells #[.int .i64 k, .int .i64 g, .int .i64 l, .slice a3 ts.length c3] 30)) := (Below.refl _ _).alloc (Nat.le_refl _) _
  have HE := hid (show idStep r (.mk k g l ts) = (r && (k == 1 || (k == 2 || k == 3))) from rfl)
  have hat1 := hat.below hb0
  have hMlt : M < w.heap.size := by omega
  have yM0 : w.cell? ⟨M, 0, none⟩ = some (.bool r) := by rw [cell_of_block hO]; rfl
  have yM : ((w.alloc (Obj.cells #[.int .i64 k, .int .i64 g, .int .i64 l, .slice a3 ts.length c3] 30))).cell? ⟨M, 0, none⟩ = some (.bool r) := cell_keep yM0 hb0
  have yz0 : w.frozen? ⟨M, 0, none⟩ = false := frozen_of_block hO
  have HO := hid hO
  clear hat hlt hO
  cases r
  · have HF := hid (fun (x : Bool) => lr_cell2 (o := (Obj.cells #[.int .i64 k, .int .i64 g, .int .i64 l, .slice a3 ts.length c3] 30)) (x := x) HO.out)
    rw [Bool.false_and] at HE
    go_enter Try.func52, Try.ntmps52
    go_wp2_with fail
    first | go_ret | go_end0
    obtain ⟨q1, q2⟩ := HF.out false
    exact ⟨⟨_, rfl⟩, _, by rw [HE.out]; exact q1, q2⟩
  by_cases h1 : k = 1
  · subst h1
    have HF := hid (fun (x : Bool) => lr_cell2 (o := (Obj.cells #[.int .i64 1, .int .i64 g, .int .i64 l, .slice a3 ts.length c3] 30)) (x := x) HO.out)
    go_enter Try.func52, Try.ntmps52
    go_wp2_with fail
    first | go_ret | go_end0
    obtain ⟨q1, q2⟩ := HF.out true
    exact ⟨⟨_, rfl⟩, _, by rw [HE.out]; exact q1, q2⟩
  have e1 : (k == 1) = false := by simpa using h1
  rw [e1, Bool.false_or, Bool.true_and] at HE
  go_enter Try.func52, Try.ntmps52
  go_wp2_with fail
  refine (isFunOrPair_any _ _ _ _ hat1).mono ?_
  rintro e w1 ⟨rfl, hb1⟩
  have hbb := below_trans hb0 hb1
  have HF := hid (fun (x : Bool) => lr_cell (x := x) hbb HO.out)
  have yM1 : w1.cell? ⟨M, 0, none⟩ = some (.bool true) := cell_keep yM hb1
  have hM1 := frozen_of_block (o := 0) (blk HO.out hbb)
  rw [fp_mk, ← HE.out]
  generalize hx : idStep true (.mk k g l ts) = x
  have HX := hid hx
  clear hx HE
  go_wp2_with fail
  first | go_ret | go_end0
  obtain ⟨q1, q2⟩ := HF.out x
  exact ⟨⟨_, rfl⟩, _, by rw [HX.out]; exact q1, q2⟩

set_option maxHeartbeats 1000000 in
theorem implCoercionIdentity (t : Co) (v : Value) (fp : List Nat) (w : World) (hat : t.At w v fp) (hn : t.cnt ≤ 1048576) :
    Calls Try.prog 20 #[v] w fun e w' => e = .returned (.bool (idV t)) ∧ Below w.heap.size w w' := by
  have hlt := hat.lt
  obtain ⟨k, g, l, n, a, cap, rfl⟩ := hat.agg
  have hb0 : Below w.heap.size w (w.alloc (Obj.cells #[.int .i64 k, .int .i64 g, .int .i64 l, .slice a n cap] 30)) := (Below.refl _ _).alloc (Nat.le_refl _) _
  have hat1 := hat.below hb0
  have HV := hid (implCoercionValid_any t _ _ _ hat1)
  have HT := hid (show idV t = (vldK t && idC t) from rfl)
  have HLT := hid hlt
  clear hlt
  generalize vldK t = r at *
  go_enter Try.func20, Try.ntmps20
  go_wp2_with fail
  refine HV.out.mono ?_
  rintro e w1 ⟨rfl, hb1⟩
  cases r
  · go_wp2_with fail
    go_ret
    exact ⟨ret_b (by rw [HT.out, Bool.false_and]), alloc1 hb1⟩
  rw [Bool.true_and] at HT
  have b1 := below_trans hb0 hb1
  obtain ⟨z0, z1, z2, z3⟩ := box4 hb1
  have hal : Below w1.heap.size w1 (w1.alloc (Obj.cells #[.bool true] 4)) := (Below.refl _ _).alloc (Nat.le_refl _) _
  have hs1 : (w1.alloc (Obj.cells #[.bool true] 4)).heap.size = w1.heap.size + 1 := by simp
  replace z0 := cell_keep z0 hal
  replace z1 := cell_keep z1 hal
  replace z2 := cell_keep z2 hal
  replace z3 := cell_keep z3 hal
  have HL := hid (show StB w1.heap.size true (.bool true) (w1.alloc (Obj.cells #[.bool true] 4)) from ⟨rfl, alloc_new _ _⟩)
  have HAT := hid ((hat.below b1).below hal)
  have HLT1 := hid (show ∀ x ∈ fp, x < w1.heap.size from fun x hx => Nat.lt_of_lt_of_le (HLT.out x hx) b1.size)
  have HB1 := hid b1
  have HAL := hid hal
  clear b1 hat hat1
  go_wp2_with fail
  refine (eachCo_any 52 #[.pointer (some ⟨w1.heap.size, 0, none⟩)] w1.heap.size (w1.heap.size + 1) (StB w1.heap.size) (fun _ => 0) idStep callOk_id (Nat.lt_succ_self _) (fun _ _ => by omega)
    (fun r v w w' h hb => ⟨h.1, blk h.2 hb⟩) (fun r v w h b hb => by rw [h.1] at hb; cases hb) (visitId w1.heap.size)
    t true (.bool true) _ fp _ HL.out HAT.out HLT1.out (Nat.le_of_eq hs1.symm) hn (show 0 + 2 * (t.cnt + 1) ≤ 4194300 by omega)).mono ?_
  rintro e w3 ⟨⟨r3, rfl⟩, v3, ⟨rfl, hO3⟩, hr3⟩
  have hc3 : w3.cell? ⟨w1.heap.size, 0, none⟩ = some (.bool (ccN idStep true t)) := by rw [cell_of_block hO3]; rfl
  have HB3 := hid (hr3.below (Nat.lt_succ_self _) (Nat.le_of_eq hs1.symm) (fun b hb => by cases hb))
  rw [idN_eq, Bool.true_and] at hc3
  clear hO3 hr3
  go_wp2_with fail
  go_ret
  exact ⟨ret_b HT.out.symm, HB1.out.trans ((HAL.out.trans HB3.out).mono HB1.out.size)⟩
end Go.Proofs.Ytolhfcpmhhhjpaa

namespace Go.Proofs.Ytolhfcpmhhhjpaa
open Go.RowKit

set_option maxRecDepth 100000 in
set_option maxHeartbeats 2000000 in
theorem implCoercionLabels (t : Co) (v : Value) (fp : List Nat) (w : World) (hsz : t.cnt ≤ 1048576) (hat : t.At w v fp) :
    Calls Try.prog 17 #[v] w (MadeI w (lcLst t)) := by
  have hlt := hat.lt
  have HLT := hid hlt
  clear hlt
  have hat0 := hat
  obtain ⟨k, g, l, n3, a3, c3, rfl⟩ := hat.agg
  have hb0 : Below w.heap.size w (w.alloc (Obj.cells #[.int .i64 k, .int .i64 g, .int .i64 l, .slice a3 n3 c3] 30)) := (Below.refl _ _).alloc (Nat.le_refl _) _
  have HV := hid (implCoercionValid_any t _ _ _ (hat0.below hb0))
  have HT := hid (show lcLst t = if vldK t then ccN scStep [] t else [] from rfl)
  have HLN := hid (show (ccN lcStep [] t).length ≤ 2 * (t.cnt + 1) by have := ccN_len lcStep List.length lcStep_len t []; simpa using this)
  have HEQ := hid (fun h => lcLst_eq t h)
  generalize lcLst t = L at *
  generalize vldK t = r at *
  go_enter Try.func17, Try.ntmps17
  go_wp2_with fail
  refine HV.out.mono ?_
  rintro e w1 ⟨rfl, hb1⟩
  obtain ⟨z0, z1, z2, z3⟩ := box4 hb1
  have b1 := below_trans hb0 hb1
  have hat2 := hat.below b1
  have hal : Below w1.heap.size w1 (w1.alloc (Obj.cells #[.slice none 0 0] 34)) := (Below.refl _ _).alloc (Nat.le_refl _) _
  cases r
  · have HFIN := hid (show MadeI w L (.returned (.slice none 0 0)) w1 from ⟨_, rfl, by rw [HT.out]; exact GrowI.zero _ _, b1⟩)
    go_wp2_with fail
    go_ret
    exact HFIN.out
  · replace z0 := cell_keep z0 hal
    replace z1 := cell_keep z1 hal
    replace z2 := cell_keep z2 hal
    replace z3 := cell_keep z3 hal
    have hs1 : (w1.alloc (Obj.cells #[.slice none 0 0] 34)).heap.size = w1.heap.size + 1 := by simp
    have HL := hid (show LabAt w1.heap.size (w1.heap.size + 1) [] (.slice none 0 0) (w1.alloc (Obj.cells #[.slice none 0 0] 34)) from ⟨alloc_new _ _, GrowI.zero _ _, Nat.lt_succ_self _⟩)
    have HAT := hid (hat2.below hal)
    have HLT1 := hid (show ∀ x ∈ fp, x < w1.heap.size from fun x hx => Nat.lt_of_lt_of_le (HLT.out x hx) b1.size)
    have hsz2 : ([] : List Int).length + 2 * (t.cnt + 1) ≤ 4194300 := by simp only [List.length_nil]; omega
    have HS2 := hid hsz2
    have HB1 := hid b1
    have HAL := hid hal
    clear hat2 hsz2 b1
    go_wp2_with fail
    refine (eachCo_any 47 #[.pointer (some ⟨w1.heap.size, 0, none⟩)] w1.heap.size (w1.heap.size + 1) (LabAt w1.heap.size (w1.heap.size + 1)) List.length lcStep callOk_lc (Nat.lt_succ_self _) lcStep_len
      (fun a v w w' h hb => h.below hb) (fun a v w h => h.2.1.own_ge) (visitLc w1.heap.size (w1.heap.size + 1))
      t [] (.slice none 0 0) _ fp _ HL.out HAT.out HLT1.out (Nat.le_of_eq hs1.symm) hsz HS2.out).mono ?_
    rintro e w3 ⟨⟨r3, rfl⟩, v3, ⟨hO3, hG3, hMB⟩, hr3⟩
    obtain ⟨a3', c3', rfl⟩ := hG3.shape
    have hc3 : w3.cell? ⟨w1.heap.size, 0, none⟩ = some (.slice a3' (ccN lcStep [] t).length c3') := by rw [cell_of_block hO3]; rfl
    have HB3 := hid (hr3.below hMB (Nat.le_of_eq hs1.symm) (fun b hb => by cases hb))
    have HS3 := hid hr3.1.2.2.2
    have HG3 := hid hG3
    have HO3 := hid hO3
    clear hG3 hO3 hr3 z0 z1 z2 z3
    go_wp2_with fail
    refine (sortedLabels_any (w1.heap.size + 1) _ _ _ HG3.out (by have := HS3.out; omega) (by have := HLN.out; omega)).mono ?_
    rintro e w5 ⟨v5, rfl, hG5, hr5⟩
    have HB5 := hid (show Below (w1.heap.size + 1) w3 w5 from ⟨hr5.1.1, hr5.1.2.1, hr5.1.2.2.1, hr5.1.2.2.2, fun k hk => by
      exact hr5.2.1 k (by have := HS3.out; omega) (by omega) (fun e => by have := (HG3.out.own_ge _ e.symm).1; omega)⟩)
    have HFIN := hid (show MadeI w L (.returned v5) w5 from ⟨v5, rfl, by rw [HT.out, if_pos trivial, ← HEQ.out trivial]; exact hG5.mono (by have := HB1.out.size; omega), HB1.out.trans ((HAL.out.trans (HB3.out.trans (HB5.out.mono (Nat.le_succ _)))).mono HB1.out.size)⟩)
    clear hG5 hr5
    go_wp2_with fail
    go_ret
    exact HFIN.out
end Go.Proofs.Ytolhfcpmhhhjpaa

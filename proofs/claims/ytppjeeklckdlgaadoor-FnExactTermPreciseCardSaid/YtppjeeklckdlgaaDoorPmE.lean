/- slices.EqualFunc over two lists of types, with Precise. -/
import Derived.Test.YtppjeeklckdlgaaDoorPm0
namespace Go.Proofs.YtppjeeklckdlgaaDoor
open Go.RowKit

set_option linter.unusedVariables false in
set_option maxHeartbeats 1000000 in
set_option maxRecDepth 100000 in
theorem eqfPrec (ts us : List Ty) (s1 s2 : Value) (f1 f2 : List Nat) (w : World) (h1 : SlAt w ts s1 f1) (h2 : SlAt w us s2 f2) :
    Calls Tryd.prog 40 #[s1, s2, .func (.func 42) #[] #[]] w fun e w' => e = .returned (.bool (prAll ts us)) ∧ Below w.heap.size w w' := by
  obtain ⟨la, lcap, rfl, hlc, hlm, hget⟩ := h1.openA
  obtain ⟨la', lcap', rfl, hlc', hlm', hget'⟩ := h2.openA
  have HG := hid hget
  have HG2 := hid hget'
  clear hget hget' h1 h2
  have hfc : ∀ (args : Array Value) (w : World), (callFunc 42 args).run Tryd.prog w = .ok (.enter 42 args) w := fun _ _ => by kernel_rfl
  by_cases hq : ts.length = us.length
  case neg =>
    have HT := hid (prAll_len hq)
    have q1 : ((ts.length : Int) != (us.length : Int)) = true := by simp; omega
    have q2 : ((ts.length : Int) == (us.length : Int)) = false := by simp; omega
    clear hq
    go_enter Tryd.func40, Tryd.ntmps40
    go_wp2_with fail
    go_ret
    exact ⟨ret_b HT.out.symm, Below.refl _ _⟩
  have q1 : ((ts.length : Int) != (us.length : Int)) = false := by simp; omega
  have q2 : ((ts.length : Int) == (us.length : Int)) = true := by simp; omega
  have HL := hid hq
  clear hq
  go_enter Tryd.func40, Tryd.ntmps40
  go_wp2_with fail
  go_loopw [17] (fun i wr => ∃ j : Nat, j ≤ ts.length ∧ i = .int .i64 j ∧ prAll (ts.drop j) (us.drop j) = prAll ts us ∧ Below w.heap.size w wr) (fun i _ => ts.length - (intOf i).toNat)
  case atStart => exact ⟨0, Nat.zero_le _, rfl, rfl, Below.refl _ _⟩
  case round =>
    obtain ⟨j, hj, rfl, hdr, hb⟩ := hrel
    have HD := hid hdr
    clear hdr
    by_cases hlk : j < ts.length
    · have hlk2 : j < us.length := by have := HL.out; omega
      obtain ⟨b, o, k1, n1, a1, c1, g1, rfl, hblt, d0, d1, hat1, -⟩ := HG.out j hlk
      obtain ⟨b2, o2, k2, n2, a2, c2, g2, rfl, hblt2, e0, e1, hat2, -⟩ := HG2.out j hlk2
      have hal : Below wr.heap.size wr ((wr.alloc (Obj.cells #[.int .i64 k1, .slice a1 n1 c1] 32)).alloc (Obj.cells #[.int .i64 k2, .slice a2 n2 c2] 32)) := ((Below.refl _ _).alloc (Nat.le_refl _) _).alloc (by simp) _
      have HAL := hid (below_trans hb hal)
      replace d0 := cell_keep d0 hb
      replace d1 := cell_keep d1 hb
      replace e0 := cell_keep e0 hb
      replace e1 := cell_keep e1 hb
      have hb1 : Below wr.heap.size wr (wr.alloc (Obj.cells #[.int .i64 k1, .slice a1 n1 c1] 32)) := (Below.refl _ _).alloc (Nat.le_refl _) _
      have e0' := cell_keep e0 hb1
      have e1' := cell_keep e1 hb1
      have HST := hid (prAll_step hlk hlk2)
      have HC := hid (implPrecise ts[j] us[j] _ _ _ _ _ (hat1.below HAL.out) (hat2.below HAL.out))
      clear hat1 hat2 hblt hblt2 hal hb hb1
      generalize precOf ts[j] us[j] = r at *
      go_wp2_with fail
      refine HC.out.mono ?_
      rintro e w3 ⟨rfl, hb3⟩
      have HBB := hid (below_trans HAL.out hb3)
      clear hb3 d0 d1 e0 e1 e0' e1'
      cases r
      · go_wp2_with fail
        go_ret
        exact ⟨ret_b (by rw [← HD.out, HST.out, Bool.false_and]), HBB.out⟩
      · go_wp2_with fail
        go_roundw
        case rel => exact ⟨j + 1, by omega, by go_num, by rw [← HD.out, HST.out, Bool.true_and], HBB.out⟩
        case measure => simp [intOf]; omega
    · go_wp2_with fail
      go_ret
      exact ⟨ret_b (by rw [← HD.out, List.drop_of_length_le (by omega), List.drop_of_length_le (by have := HL.out; omega)]; rfl), hb⟩
end Go.Proofs.YtppjeeklckdlgaaDoor

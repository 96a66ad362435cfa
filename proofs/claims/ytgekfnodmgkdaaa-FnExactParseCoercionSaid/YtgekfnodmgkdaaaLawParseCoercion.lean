/- The law on ParseCoercion: it returns true and writes nothing that was there. -/
import Derived.Test.YtgekfnodmgkdaaaCEq
import Derived.Test.YtgekfnodmgkdaaaCHd
import Derived.Test.YtgekfnodmgkdaaaPkA
import Derived.Test.YtgekfnodmgkdaaaPd7
namespace Go.Proofs.Ytgekfnodmgkdaaa
open Go.RowKit

set_option maxHeartbeats 4000000 in
set_option maxRecDepth 100000 in
theorem lawParseCoercion (s : ByteArray) (w : World) (hsm : s.size ≤ maxLen) :
    Calls Try.prog 5 #[.string s] w fun e w' => e = .returned (.bool true) ∧ Below w.heap.size w w' := by
  unfold maxLen at hsm
  by_cases hc : s.size ≤ 1048576
  case neg =>
    have hc2 : (1048576 : Int) < (s.size : Int) := by omega
    go_enter Try.func5, Try.ntmps5
    go_wp2_with fail
    go_ret
    exact ⟨rfl, Below.refl _ _⟩
  have hc2 : ¬ (1048576 : Int) < (s.size : Int) := by omega
  have hn3 : (pcT s).cnt ≤ 1048576 := pcT_cnt s
  go_enter Try.func5, Try.ntmps5
  go_wp2_with fail
  refine (specParseCoercion s _ hc).mono ?_
  rintro e wc ⟨k6, t6, l6, c6, n6, cap6, f6, rfl, hw6, hf6, hb⟩
  have hb6a : Below wc.heap.size wc (wc.alloc (Obj.cells #[.int .i64 k6, .int .i64 t6, .int .i64 l6, .slice c6 n6 cap6] 44)) := (Below.refl _ _).alloc (Nat.le_refl _) _
  have hl6 := hw6.lt
  have hz := below_trans hb hb6a
  have hSw := hb.size
  replace hw6 := hw6.below hb6a
  clear hb hb6a hf6
  go_wp2_with fail
  refine (implParseCoercion s _ hc).mono ?_
  rintro e y6 ⟨kg, tg, lg, cg, ng, capg, fg, rfl, hg, hfg, hb6⟩
  obtain ⟨e60, e61, e62, e63⟩ := box4 hb6
  have hb6a : Below y6.heap.size y6 (y6.alloc (Obj.cells #[.int .i64 kg, .int .i64 tg, .int .i64 lg, .slice cg ng capg] 44)) := (Below.refl _ _).alloc (Nat.le_refl _) _
  have hR6 : Within (wc.heap.size + 1) y6.heap.size fg := by have := hfg.within; simpa using this
  have hS6 : wc.heap.size + 1 ≤ y6.heap.size := by have := hb6.size; simp at this; omega
  have hb := below_trans hb6 hb6a
  replace e60 := cell_keep e60 hb6a
  replace e61 := cell_keep e61 hb6a
  replace e62 := cell_keep e62 hb6a
  replace e63 := cell_keep e63 hb6a
  replace hw6 := hw6.below hb
  replace hz := below_trans hz hb
  replace hg := hg.below hb6a
  replace hfg := hfg.below hb6a
  clear hb hb6 hb6a
  go_wp2_with fail
  refine (eqCoer_any _ _ _ _ _ _ _ hg hw6).mono ?_
  rw [coEq_refl]
  rintro e y7 ⟨rfl, hb⟩
  obtain ⟨g0, g1, g2, g3⟩ := box4 hb
  replace e60 := cell_keep e60 hb
  replace e61 := cell_keep e61 hb
  replace e62 := cell_keep e62 hb
  replace e63 := cell_keep e63 hb
  replace hw6 := hw6.below hb
  replace hg := hg.below hb
  replace hz := below_trans hz hb
  replace hfg := hfg.below hb
  clear hb
  go_wp2_with fail
  have hRw : Within 0 wc.heap.size f6 := fun b hb => ⟨Nat.zero_le _, hl6 b hb⟩
  refine (markCoer_any _ _ _ _ _ hg hfg.1 (fun b hb => (hfg.2 b hb).2.2) (by omega) (by omega)).mono ?_
  rintro e y15 ⟨rfl, hg, hon⟩
  replace e60 := cell_only e60 hon (by first | exact hR6.low (by omega) | exact hR6.high (by omega))
  replace e61 := cell_only e61 hon (by first | exact hR6.low (by omega) | exact hR6.high (by omega))
  replace e62 := cell_only e62 hon (by first | exact hR6.low (by omega) | exact hR6.high (by omega))
  replace e63 := cell_only e63 hon (by first | exact hR6.low (by omega) | exact hR6.high (by omega))
  replace g0 := cell_only g0 hon (by first | exact hR6.low (by omega) | exact hR6.high (by omega))
  replace g1 := cell_only g1 hon (by first | exact hR6.low (by omega) | exact hR6.high (by omega))
  replace g2 := cell_only g2 hon (by first | exact hR6.low (by omega) | exact hR6.high (by omega))
  replace g3 := cell_only g3 hon (by first | exact hR6.low (by omega) | exact hR6.high (by omega))
  replace hw6 := hw6.only hon (hR6.apart hRw (by omega))
  replace hz := belowOnly hz hon (by have := hz.size; omega) (fun b hb => by have := (hR6 b hb).1; omega)
  clear hon
  go_wp2_with fail
  refine (heldCoer_any _ _ _ _ _ hg (by omega) (by omega)).mono ?_
  rintro e y16 ⟨rfl, hb⟩
  replace e60 := cell_keep e60 hb
  replace e61 := cell_keep e61 hb
  replace e62 := cell_keep e62 hb
  replace e63 := cell_keep e63 hb
  replace g0 := cell_keep g0 hb
  replace g1 := cell_keep g1 hb
  replace g2 := cell_keep g2 hb
  replace g3 := cell_keep g3 hb
  replace hw6 := hw6.below hb
  replace hg := hg.below hb
  replace hz := below_trans hz hb
  clear hb
  go_wp2_with fail
  refine (implParseCoercion s _ hc).mono ?_
  rintro e y18 ⟨k8, t8, l8, c8, n8, cap8, f8, rfl, hw8, hf8, hb⟩
  have hb8a : Below y18.heap.size y18 (y18.alloc (Obj.cells #[.int .i64 k8, .int .i64 t8, .int .i64 l8, .slice c8 n8 cap8] 44)) := (Below.refl _ _).alloc (Nat.le_refl _) _
  replace hb := below_trans hb hb8a
  replace e60 := cell_keep e60 hb
  replace e61 := cell_keep e61 hb
  replace e62 := cell_keep e62 hb
  replace e63 := cell_keep e63 hb
  replace g0 := cell_keep g0 hb
  replace g1 := cell_keep g1 hb
  replace g2 := cell_keep g2 hb
  replace g3 := cell_keep g3 hb
  replace hw6 := hw6.below hb
  replace hg := hg.below hb
  replace hz := below_trans hz hb
  replace hw8 := hw8.below hb8a
  clear hb hb8a hf8
  go_wp2_with fail
  refine (eqCoer_any _ _ _ _ _ _ _ hw8 hw6).mono ?_
  rw [coEq_refl]
  rintro e y19 ⟨rfl, hb⟩
  replace e60 := cell_keep e60 hb
  replace e61 := cell_keep e61 hb
  replace e62 := cell_keep e62 hb
  replace e63 := cell_keep e63 hb
  replace g0 := cell_keep g0 hb
  replace g1 := cell_keep g1 hb
  replace g2 := cell_keep g2 hb
  replace g3 := cell_keep g3 hb
  replace hw6 := hw6.below hb
  replace hg := hg.below hb
  replace hz := below_trans hz hb
  clear hb
  go_wp2_with fail
  refine (heldCoer_any _ _ _ _ _ hg (by omega) (by omega)).mono ?_
  rintro e y20 ⟨rfl, hb⟩
  replace hz := below_trans hz hb
  go_wp2_with fail
  go_ret
  exact ⟨rfl, hz⟩
end Go.Proofs.Ytgekfnodmgkdaaa

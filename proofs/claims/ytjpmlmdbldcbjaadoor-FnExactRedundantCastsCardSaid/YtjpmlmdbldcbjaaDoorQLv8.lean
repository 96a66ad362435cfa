/- The program's RedundantCasts. -/
import Derived.Test.YtjpmlmdbldcbjaaDoorQLv7
import Derived.Test.YtjpmlmdbldcbjaaDoorQG25
import Derived.Test.YtjpmlmdbldcbjaaDoorQG1
namespace Go.Proofs.YtjpmlmdbldcbjaaDoor
open Go.RowKit

set_option linter.unusedVariables false in
set_option linter.unusedSimpArgs false in
set_option maxRecDepth 100000 in
set_option maxHeartbeats 4000000 in
theorem implRedundant (t : Tm) (v : Value) (fp : List Nat) (w : World) (hsz : t.sz ≤ 1048576) (hF : Forms w) (hat : t.At w v fp) : Calls Tryd.prog 15 #[v] w fun e w' => e = .returned (.int .i64 (redC t)) ∧ Below w.heap.size w w' := by
  obtain ⟨e0, e1, e2, e3, e4, e5, e6, e7, e8, e9, e10, e11, e12, e13, e14, rfl⟩ := hat.agg
  have hb0 : Below w.heap.size w (w.alloc (Obj.cells #[.int .i64 e0, .string e1, .int .i64 e2, .int .i64 e3, .slice e5 e4 e6, .int .i64 e7, .slice e9 e8 e10, .int .i64 e11, .slice e13 e12 e14] 34)) := (Below.refl _ _).alloc (Nat.le_refl _) _
  have hB0 := alloc_new w (Obj.cells #[.int .i64 e0, .string e1, .int .i64 e2, .int .i64 e3, .slice e5 e4 e6, .int .i64 e7, .slice e9 e8 e10, .int .i64 e11, .slice e13 e12 e14] 34)
  have HSI := hid (implSimplify t _ fp (w.alloc (Obj.cells #[.int .i64 e0, .string e1, .int .i64 e2, .int .i64 e3, .slice e5 e4 e6, .int .i64 e7, .slice e9 e8 e10, .int .i64 e11, .slice e13 e12 e14] 34)) hsz (hF.below hb0) (hat.below hb0))
  have HAT := hid (fun (W' : World) (h : Below w.heap.size w W') => hat.below h)
  have HFF := hid (fun (W' : World) (h : Below w.heap.size w W') => hF.below h)
  have HT := hid (show redC t = (ccO t : Int) - (ccO (simT t) : Int) from rfl)
  have HZS := hid (sz_simT hsz)
  have hc1 : ccO t ≤ 4194304 := by have := cc_len t; unfold ccO; split <;> omega
  have hc2 : ccO (simT t) ≤ 4194304 := by have := cc_len (simT t); have := HZS.out; unfold ccO; split <;> omega
  have HCC := hid (fun (W : World) (h : Below w.heap.size w W) => implCountCasts t _ fp W hsz (hF.below h) (hat.below h))
  generalize redC t = RR at *
  generalize simT t = D at *
  generalize hC1 : ccO t = C1 at *
  generalize hC2 : ccO D = C2 at *
  generalize vldC t = r at *
  have hi1 : (0 : Int) ≤ (C1 : Int) := by omega
  have hi2 : (0 : Int) ≤ (C2 : Int) := by omega
  have hi3 : (C1 : Int) ≤ 4194304 := by omega
  have hi4 : (C2 : Int) ≤ 4194304 := by omega
  clear hat hF
  go_enter Tryd.func15, Tryd.ntmps15
  go_upto_region 1 with (fail)
  generalize (w.alloc (Obj.cells #[.int .i64 e0, .string e1, .int .i64 e2, .int .i64 e3, .slice e5 e4 e6, .int .i64 e7, .slice e9 e8 e10, .int .i64 e11, .slice e13 e12 e14] 34)) = W1 at HSI hB0 hb0 ⊢
  obtain ⟨x0, x1, x2, x3, x4, x5, x6, x7, x8⟩ := cells9 hB0
  go_wp2_with fail
  refine HSI.out.mono ?_
  rintro e w1 ⟨v1, f1, rfl, hu, hf, hb1⟩
  obtain ⟨r0, r1, r2, r3, r4, r5, r6, r7, r8, r9, r10, r11, r12, r13, r14, rfl⟩ := hu.agg
  have hal : Below w1.heap.size w1 (w1.alloc (Obj.cells #[.int .i64 r0, .string r1, .int .i64 r2, .int .i64 r3, .slice r5 r4 r6, .int .i64 r7, .slice r9 r8 r10, .int .i64 r11, .slice r13 r12 r14] 34)) := (Below.refl _ _).alloc (Nat.le_refl _) _
  have hI := alloc_new w1 (Obj.cells #[.int .i64 r0, .string r1, .int .i64 r2, .int .i64 r3, .slice r5 r4 r6, .int .i64 r7, .slice r9 r8 r10, .int .i64 r11, .slice r13 r12 r14] 34)
  have hB := blk (blk hB0 hb1) hal
  have hb4 := below_trans (below_trans hb0 hb1) hal
  replace hu := hu.below hal
  clear x0 x1 x2 x3 x4 x5 x6 x7 x8 hB0 hb0 hb1 HSI hf
  go_upto_region 2 with (fail)
  generalize hx : w1.alloc (Obj.cells #[.int .i64 r0, .string r1, .int .i64 r2, .int .i64 r3, .slice r5 r4 r6, .int .i64 r7, .slice r9 r8 r10, .int .i64 r11, .slice r13 r12 r14] 34) = W3 at hI hB hb4 hu ⊢
  generalize w1.heap.size = R at hI ⊢
  clear hal hx
  have HC1 := hid (fun (W : World) (h : Below W3.heap.size W3 W) => HCC.out W (below_trans hb4 h))
  have HC2 := hid (fun (W : World) (h : Below W3.heap.size W3 W) => (by have q := implCountCasts D _ f1 W HZS.out (HFF.out _ (below_trans hb4 h)) (hu.below h); rw [hC2] at q; exact q : Calls Tryd.prog 37 #[.agg #[.int .i64 r0, .string r1, .int .i64 r2, .int .i64 r3, .slice r5 r4 r6, .int .i64 r7, .slice r9 r8 r10, .int .i64 r11, .slice r13 r12 r14]] W fun e w' => e = .returned (.int .i64 ((C2 : Nat) : Int)) ∧ Below W.heap.size W w'))
  have HS := hid (fun (W : World) (h : Below W3.heap.size W3 W) => (show W.cell? ⟨w.heap.size, 0, none⟩ = some (.int .i64 e0) ∧ W.cell? ⟨w.heap.size, 1, none⟩ = some (.string e1) ∧ W.cell? ⟨w.heap.size, 2, none⟩ = some (.int .i64 e2) ∧ W.cell? ⟨w.heap.size, 3, none⟩ = some (.int .i64 e3) ∧ W.cell? ⟨w.heap.size, 4, none⟩ = some (.slice e5 e4 e6) ∧ W.cell? ⟨w.heap.size, 5, none⟩ = some (.int .i64 e7) ∧ W.cell? ⟨w.heap.size, 6, none⟩ = some (.slice e9 e8 e10) ∧ W.cell? ⟨w.heap.size, 7, none⟩ = some (.int .i64 e11) ∧ W.cell? ⟨w.heap.size, 8, none⟩ = some (.slice e13 e12 e14) ∧ W.cell? ⟨R, 0, none⟩ = some (.int .i64 r0) ∧ W.cell? ⟨R, 1, none⟩ = some (.string r1) ∧ W.cell? ⟨R, 2, none⟩ = some (.int .i64 r2) ∧ W.cell? ⟨R, 3, none⟩ = some (.int .i64 r3) ∧ W.cell? ⟨R, 4, none⟩ = some (.slice r5 r4 r6) ∧ W.cell? ⟨R, 5, none⟩ = some (.int .i64 r7) ∧ W.cell? ⟨R, 6, none⟩ = some (.slice r9 r8 r10) ∧ W.cell? ⟨R, 7, none⟩ = some (.int .i64 r11) ∧ W.cell? ⟨R, 8, none⟩ = some (.slice r13 r12 r14) from by
    obtain ⟨x0, x1, x2, x3, x4, x5, x6, x7, x8⟩ := cells9 (blk hB h)
    obtain ⟨u0, u1, u2, u3, u4, u5, u6, u7, u8⟩ := cells9 (blk hI h)
    exact ⟨x0, x1, x2, x3, x4, x5, x6, x7, x8, u0, u1, u2, u3, u4, u5, u6, u7, u8⟩))
  clear hu hI hB HAT HFF
  refine regionL (s := 5) (S0 := (fun w' => w'.cell? ⟨w.heap.size, 0, none⟩ = some (.int .i64 e0) ∧ w'.cell? ⟨w.heap.size, 1, none⟩ = some (.string e1) ∧ w'.cell? ⟨w.heap.size, 2, none⟩ = some (.int .i64 e2) ∧ w'.cell? ⟨w.heap.size, 3, none⟩ = some (.int .i64 e3) ∧ w'.cell? ⟨w.heap.size, 4, none⟩ = some (.slice e5 e4 e6) ∧ w'.cell? ⟨w.heap.size, 5, none⟩ = some (.int .i64 e7) ∧ w'.cell? ⟨w.heap.size, 6, none⟩ = some (.slice e9 e8 e10) ∧ w'.cell? ⟨w.heap.size, 7, none⟩ = some (.int .i64 e11) ∧ w'.cell? ⟨w.heap.size, 8, none⟩ = some (.slice e13 e12 e14) ∧ w'.cell? ⟨R, 0, none⟩ = some (.int .i64 r0) ∧ w'.cell? ⟨R, 1, none⟩ = some (.string r1) ∧ w'.cell? ⟨R, 2, none⟩ = some (.int .i64 r2) ∧ w'.cell? ⟨R, 3, none⟩ = some (.int .i64 r3) ∧ w'.cell? ⟨R, 4, none⟩ = some (.slice r5 r4 r6) ∧ w'.cell? ⟨R, 5, none⟩ = some (.int .i64 r7) ∧ w'.cell? ⟨R, 6, none⟩ = some (.slice r9 r8 r10) ∧ w'.cell? ⟨R, 7, none⟩ = some (.int .i64 r11) ∧ w'.cell? ⟨R, 8, none⟩ = some (.slice r13 r12 r14))) (S1 := (fun _ => True)) (by kernel_rfl) (HS.out _ (below_drew W3)) (trivial) (fun hS0 => ?_)
  refine takeL0 (i := 0) (v := ?vi1) rfl rfl (by kernel_rfl) (by kernel_rfl) (by kernel_rfl) (by decide) (by kernel_rfl) (by kernel_rfl) (fun _ _ _ h => h) (Or.inl ⟨by rfl, ?hyi1⟩) (by assumption) ?_
  case hyi1 => (intro w hSw; (try dsimp only at hSw); go_simp; (try with_reducible rfl))
  try simp only [Act.put, List.setIfInBounds_toArray, List.set_cons_zero, List.set_cons_succ]
  refine takeL0 (i := 2) (v := ?vi2) rfl rfl (by kernel_rfl) (by kernel_rfl) (by kernel_rfl) (by decide) (by kernel_rfl) (by kernel_rfl) (fun _ _ _ h => h) (Or.inl ⟨by rfl, ?hyi2⟩) (by assumption) ?_
  case hyi2 => (intro w hSw; (try dsimp only at hSw); go_simp; (try with_reducible rfl))
  try simp only [Act.put, List.setIfInBounds_toArray, List.set_cons_zero, List.set_cons_succ]
  refine readyL (rs := [1]) (by kernel_rfl) (by simp) ?_
  refine AllReadyL.cons rfl (fun K hK => ?_) AllReadyL.nil
  go_simp
  refine (HC1.out _ (below_drew W3)).mono ?_
  rintro e w5 ⟨rfl, hb5⟩
  have hk5 := below_trans (below_drew W3) hb5
  refine hK.out _ _ ?_ (fun hS1 => ?_)
  · exact ⟨trivial, fun _ => HS.out _ hk5⟩
  clear hK K hS0
  try simp only [Act.put, List.setIfInBounds_toArray, List.set_cons_zero, List.set_cons_succ]
  refine readyL (rs := [3]) (by kernel_rfl) (by simp) ?_
  refine AllReadyL.cons rfl (fun K hK => ?_) AllReadyL.nil
  go_simp
  refine (HC2.out _ hk5).mono ?_
  rintro e w6 ⟨rfl, hb6⟩
  have hk6 := below_trans hk5 hb6
  refine hK.out _ _ ?_ (fun hS2 => ?_)
  · exact ⟨trivial, fun _ => HS.out _ hk6⟩
  clear hK K hS1
  try simp only [Act.put, List.setIfInBounds_toArray, List.set_cons_zero, List.set_cons_succ]
  refine takeL0 (i := 4) (v := ?vi3) rfl rfl (by kernel_rfl) (by kernel_rfl) (by kernel_rfl) (by decide) (by kernel_rfl) (by kernel_rfl) (fun _ _ _ h => h) (Or.inl ⟨by rfl, ?hyi3⟩) (by assumption) ?_
  case hyi3 => (intro w hSw; (try dsimp only at hSw); go_simp; (try with_reducible rfl))
  try simp only [Act.put, List.setIfInBounds_toArray, List.set_cons_zero, List.set_cons_succ]
  refine readyL (rs := [5]) (by kernel_rfl) (by simp) ?_
  refine AllReadyL.cons rfl (fun K hK => ?_) AllReadyL.nil
  go_simp
  refine hK.out _ _ ?_ (fun hS3 => ?_)
  · exact ⟨trivial, fun h => absurd (h.symm.trans (show _ = true by kernel_rfl)) (by decide)⟩
  clear hK K hS2
  try simp only [Act.put, List.setIfInBounds_toArray, List.set_cons_zero, List.set_cons_succ]
  refine doneL (by kernel_rfl) ?_ _
  have hb7 := below_trans hb4 hk6
  go_wp2_with fail
  go_ret
  exact ⟨ret_i (by rw [HT.out]; rw [IntKind.wrap_i64]; omega), hb7⟩
end Go.Proofs.YtjpmlmdbldcbjaaDoor

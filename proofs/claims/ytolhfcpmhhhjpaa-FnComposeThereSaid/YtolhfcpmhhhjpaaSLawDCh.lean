/- The drawn law on ComposeThere: it returns true and writes nothing that was there. -/
import Derived.Test.YtolhfcpmhhhjpaaSG23
import Derived.Test.YtolhfcpmhhhjpaaSQci
import Derived.Test.YtolhfcpmhhhjpaaSDc0
import Derived.Test.YtolhfcpmhhhjpaaSQTsm
import Derived.Test.YtolhfcpmhhhjpaaSG31
import Derived.Test.YtolhfcpmhhhjpaaSG1
namespace Go.Proofs.Ytolhfcpmhhhjpaa
open Go.RowKit

theorem cons_self9 : ∀ {d : Nat} {a : Ty}, shp d a = true → cons a a = true
  | 0, a, ha => by simp [shp] at ha
  | d + 1, a, ha => by
    obtain ⟨k, ts, rfl⟩ := a.shape
    rcases shp_cases ha with ⟨rfl, hk⟩ | ⟨x, y, rfl, hk, hx, hy⟩
    · simp [cons, consL]
    · simp [cons, consL, cons_self9 hx, cons_self9 hy]

theorem there_ok {a b : Ty} {l : Int} (h1 : cstOk a (.mk 1 []) l = true) (h2 : cstOk (.mk 1 []) b l = true) :
    cmpOk (cstOf a (.mk 1 []) l) (cstOf (.mk 1 []) b l) = true ∧ ctyp (cmpOf (cstOf a (.mk 1 []) l) (cstOf (.mk 1 []) b l)) a b = true ∧ (tyEq a b = true → cstOk a b l = true ∧ cmpOf (cstOf a (.mk 1 []) l) (cstOf (.mk 1 []) b l) = cstOf a b l ∧ idV (cmpOf (cstOf a (.mk 1 []) l) (cstOf (.mk 1 []) b l)) = true) := by
  obtain ⟨a1, a2, a3, a4⟩ := cstOk_parts h1
  obtain ⟨b1, b2, b3, b4⟩ := cstOk_parts h2
  obtain ⟨z, hz, sz, ez⟩ := there 4 8 18 a b l a1 b2 a4 (by omega) (by omega)
  have e1 : cstOf a (.mk 1 []) l = cst 8 a (.mk 1 []) l := by rw [cstOf, if_pos h1]
  have e2 : cstOf (.mk 1 []) b l = cst 8 (.mk 1 []) b l := by rw [cstOf, if_pos h2]
  have vz : vldK z = true := shpK_up (by omega) sz
  have hk : cmpOk (cstOf a (.mk 1 []) l) (cstOf (.mk 1 []) b l) = true := by
    rw [cmpOk, vld_cst h1, vld_cst h2, e1, e2, hz]
    exact vz
  have eZ : cmpOf (cstOf a (.mk 1 []) l) (cstOf (.mk 1 []) b l) = z := by
    rw [cmpOf, if_pos hk, e1, e2, hz, Option.getD_some]
  refine ⟨hk, ?_, fun h => ?_⟩
  · rw [eZ]
    exact Typ_ctyp vz a1 b2 (typ_cmp 18 _ _ _ 9 9 _ _ _ hz (e1 ▸ vld_cst h1) (e2 ▸ vld_cst h2) (e1 ▸ ctyp_Typ (ctyp_cst h1)) (e2 ▸ ctyp_Typ (ctyp_cst h2)))
  · have e := tyEq_eq _ _ h
    subst e
    have hk2 : cstOk a a l = true := by
      simp only [cstOk, consOf, Bool.and_eq_true]
      exact ⟨⟨⟨a1, a1⟩, cons_self9 a1⟩, a4⟩
    rw [eZ, ez rfl]
    refine ⟨hk2, (idTy_cstOf hk2).symm, ?_⟩
    rw [← idTy_cstOf hk2, idV_cst hk2, tyEq_refl]

set_option linter.unusedVariables false in
set_option linter.unusedSimpArgs false in
set_option maxRecDepth 100000 in
set_option maxHeartbeats 8000000 in
theorem lawDCh (a : Option Addr) (n cap : Nat) (w : World) (hB : BytA w a n) (hn : n ≤ cap) (hm : cap ≤ maxLen) :
    Calls Try.prog 9 #[.slice a n cap] w fun e w' => e = .returned (.bool true) ∧ Below w.heap.size w w' := by
  by_cases hl : (n : Int) > 1048576
  · clear hB
    go_enter Try.func9, Try.ntmps9
    go_wp2_with fail
    go_ret
    exact ⟨rfl, Below.refl _ _⟩
  have HD := hid (drawCo_any a n cap w hB hn hm)
  clear hB
  go_enter Try.func9, Try.ntmps9
  go_wp2_with fail
  refine HD.out.mono ?_
  rintro e w1 ⟨t1, t2, v1, v2, f1, f2, l, rfl, hsm, hlb, h1, h2, m1, m2, hb⟩
  obtain ⟨k1, n1, a1, c1, rfl⟩ := h1.agg
  obtain ⟨k2, n2, a2, c2, rfl⟩ := h2.agg
  have hal0 : Below w1.heap.size w1 ((w1.alloc (Obj.cells #[.int .i64 k1, .slice a1 n1 c1] 25)).alloc (Obj.cells #[.int .i64 k2, .slice a2 n2 c2] 25)) := ((Below.refl _ _).alloc (Nat.le_refl _) _).alloc (by simp) _
  have hal : Below w1.heap.size w1 (((w1.alloc (Obj.cells #[.int .i64 k1, .slice a1 n1 c1] 25)).alloc (Obj.cells #[.int .i64 k2, .slice a2 n2 c2] 25)).alloc (Obj.cells #[.int .i64 1, .slice none 0 0] 25)) := hal0.alloc (by simp; omega) _
  have hbw := below_trans hb hal
  have q1 := h1.below hal
  have q2 := h2.below hal
  have r1 : ∀ x ∈ f1, Raw (((w1.alloc (Obj.cells #[.int .i64 k1, .slice a1 n1 c1] 25)).alloc (Obj.cells #[.int .i64 k2, .slice a2 n2 c2] 25)).alloc (Obj.cells #[.int .i64 1, .slice none 0 0] 25)) x := fun x hx => (⟨q1.laid x hx, fun o => (hal.frozen (p := ⟨x, o, none⟩) (h1.lt x hx)).trans ((m1 x hx).2 o)⟩ : Raw (((w1.alloc (Obj.cells #[.int .i64 k1, .slice a1 n1 c1] 25)).alloc (Obj.cells #[.int .i64 k2, .slice a2 n2 c2] 25)).alloc (Obj.cells #[.int .i64 1, .slice none 0 0] 25)) x)
  have r2 : ∀ x ∈ f2, Raw (((w1.alloc (Obj.cells #[.int .i64 k1, .slice a1 n1 c1] 25)).alloc (Obj.cells #[.int .i64 k2, .slice a2 n2 c2] 25)).alloc (Obj.cells #[.int .i64 1, .slice none 0 0] 25)) x := fun x hx => (⟨q2.laid x hx, fun o => (hal.frozen (p := ⟨x, o, none⟩) (h2.lt x hx)).trans ((m2 x hx).2 o)⟩ : Raw (((w1.alloc (Obj.cells #[.int .i64 k1, .slice a1 n1 c1] 25)).alloc (Obj.cells #[.int .i64 k2, .slice a2 n2 c2] 25)).alloc (Obj.cells #[.int .i64 1, .slice none 0 0] 25)) x)
  obtain ⟨hO1', hO2'⟩ := two9 (Below.refl ((w1.alloc (Obj.cells #[.int .i64 k1, .slice a1 n1 c1] 25)).alloc (Obj.cells #[.int .i64 k2, .slice a2 n2 c2] 25)).heap.size ((w1.alloc (Obj.cells #[.int .i64 k1, .slice a1 n1 c1] 25)).alloc (Obj.cells #[.int .i64 k2, .slice a2 n2 c2] 25)))
  have hal1 : Below ((w1.alloc (Obj.cells #[.int .i64 k1, .slice a1 n1 c1] 25)).alloc (Obj.cells #[.int .i64 k2, .slice a2 n2 c2] 25)).heap.size ((w1.alloc (Obj.cells #[.int .i64 k1, .slice a1 n1 c1] 25)).alloc (Obj.cells #[.int .i64 k2, .slice a2 n2 c2] 25)) (((w1.alloc (Obj.cells #[.int .i64 k1, .slice a1 n1 c1] 25)).alloc (Obj.cells #[.int .i64 k2, .slice a2 n2 c2] 25)).alloc (Obj.cells #[.int .i64 1, .slice none 0 0] 25)) := (Below.refl _ _).alloc (Nat.le_refl _) _
  have hO1 := blk hO1' hal1
  have hO2 := blk hO2' hal1
  have hO3 := alloc_new ((w1.alloc (Obj.cells #[.int .i64 k1, .slice a1 n1 c1] 25)).alloc (Obj.cells #[.int .i64 k2, .slice a2 n2 c2] 25)) (Obj.cells #[.int .i64 1, .slice none 0 0] 25)
  rw [show ((w1.alloc (Obj.cells #[.int .i64 k1, .slice a1 n1 c1] 25)).alloc (Obj.cells #[.int .i64 k2, .slice a2 n2 c2] 25)).heap.size = w1.heap.size + 1 + 1 by simp] at hO3
  clear h1 h2 hb m1 m2 hal0 hal1 hO1' hO2'
  go_upto_region 5 with (fail)
  generalize (((w1.alloc (Obj.cells #[.int .i64 k1, .slice a1 n1 c1] 25)).alloc (Obj.cells #[.int .i64 k2, .slice a2 n2 c2] 25)).alloc (Obj.cells #[.int .i64 1, .slice none 0 0] 25)) = W4 at q1 q2 r1 r2 hO1 hO2 hO3 hbw ⊢
  generalize w1.heap.size = A at hO1 hO2 hO3 ⊢
  clear hal
  have hu4 : ∀ W : World, (Ty.mk 1 []).At W (.agg #[.int .i64 1, .slice none 0 0]) [] := fun W => Ty.at_mk.2 ⟨_, rfl, .inl ⟨rfl, rfl, _, _, rfl⟩⟩
  have HC1 := hid (fun (W : World) (h : Below W4.heap.size W4 W) => implCoerceOf t1 (.mk 1 []) l _ _ f1 [] W (q1.below h) (hu4 W))
  have HS1 := hid (fun (W : World) (h : Below W4.heap.size W4 W) => specCoerceOf t1 (.mk 1 []) l _ _ f1 [] W (q1.below h) (hu4 W))
  have HC2 := hid (fun (W : World) (h : Below W4.heap.size W4 W) => implCoerceOf (.mk 1 []) t2 l _ _ [] f2 W (hu4 W) (q2.below h))
  have HC3 := hid (fun (W : World) (h : Below W4.heap.size W4 W) => implCoerceOf t1 t2 l _ _ f1 f2 W (q1.below h) (q2.below h))
  have HTS := hid (fun (W : World) (h : Below W4.heap.size W4 W) => implTypeSame t1 t2 _ _ f1 f2 W (by have := hsm.1; omega) (q1.below h) (q2.below h) (fun x hx => (r1 x hx).below h) (fun x hx => (r2 x hx).below h))
  have HTY := hid (fun (Z : Co) (v : Value) (fz : List Nat) (W : World) (h : Below W4.heap.size W4 W) (hz : Z.At W v fz) => implCoercionTyped_any Z t1 t2 _ _ _ _ _ _ W hz (q1.below h) (q2.below h))
  have HCN := hid (cstOf_cnt t1 (.mk 1 []) l)
  have HFN := hid (cstOf_cnt t1 t2 l)
  have HZN := hid (cmpOf_cnt (cstOf t1 (.mk 1 []) l) (cstOf (.mk 1 []) t2 l))
  have HCH := hid (fun (h1 : cstOk t1 (.mk 1 []) l = true) (h2 : cstOk (.mk 1 []) t2 l = true) => there_ok h1 h2)
  generalize cstOk t1 (.mk 1 []) l = ok1 at *
  generalize cstOk (.mk 1 []) t2 l = ok2 at *
  generalize cstOf t1 (.mk 1 []) l = C at *
  generalize cstOf (.mk 1 []) t2 l = E at *
  generalize cstOk t1 t2 l = ok3 at *
  generalize cstOf t1 t2 l = F at *
  generalize tyEq t1 t2 = tt at *
  have HA1 := hid (fun (W : World) (h : Below W4.heap.size W4 W) => (show W.cell? ⟨A, 0, none⟩ = some (.int .i64 k1) ∧ W.cell? ⟨A, 1, none⟩ = some (.slice a1 n1 c1) from by
    have e3 := blk hO1 h
    exact ⟨by rw [cell_of_block e3]; rfl, by rw [cell_of_block e3]; rfl⟩))
  have HA2 := hid (fun (W : World) (h : Below W4.heap.size W4 W) => (show W.cell? ⟨(A + 1), 0, none⟩ = some (.int .i64 k2) ∧ W.cell? ⟨(A + 1), 1, none⟩ = some (.slice a2 n2 c2) from by
    have e3 := blk hO2 h
    exact ⟨by rw [cell_of_block e3]; rfl, by rw [cell_of_block e3]; rfl⟩))
  have HA3 := hid (fun (W : World) (h : Below W4.heap.size W4 W) => (show W.cell? ⟨A + 1 + 1, 0, none⟩ = some (.int .i64 1) ∧ W.cell? ⟨A + 1 + 1, 1, none⟩ = some (.slice none 0 0) from by
    have e3 := blk hO3 h
    exact ⟨by rw [cell_of_block e3]; rfl, by rw [cell_of_block e3]; rfl⟩))
  clear q1 q2 r1 r2 hO1 hO2 hO3 hu4
  obtain ⟨x0, x1⟩ := HA1.out _ (Below.refl _ _)
  obtain ⟨x4, x5⟩ := HA3.out _ (Below.refl _ _)
  go_wp2_with fail
  refine (HC1.out _ (Below.refl _ _)).mono ?_
  rintro e z5 ⟨v5, f5, rfl, hc5, hf5, hb5⟩
  obtain ⟨p0, p1, p2, p3, p4, p5, rfl⟩ := hc5.agg
  have hal5 : Below z5.heap.size z5 (z5.alloc (Obj.cells #[.int .i64 p0, .int .i64 p1, .int .i64 p2, .slice p4 p3 p5] 30)) := (Below.refl _ _).alloc (Nat.le_refl _) _
  have hk5 := below_trans hb5 hal5
  have hB5 := alloc_new z5 (Obj.cells #[.int .i64 p0, .int .i64 p1, .int .i64 p2, .slice p4 p3 p5] 30)
  replace hc5 := hc5.below hal5
  replace hf5 := hf5.below hal5
  clear hb5
  go_upto_region 6 with (fail)
  generalize hx5 : z5.alloc (Obj.cells #[.int .i64 p0, .int .i64 p1, .int .i64 p2, .slice p4 p3 p5] 30) = W5 at hk5 hB5 hc5 hf5 ⊢
  generalize z5.heap.size = B5 at hB5 ⊢
  clear hal5 hx5
  clear x0 x1 x4 x5
  obtain ⟨x0, x1⟩ := HA1.out _ hk5
  obtain ⟨x4, x5⟩ := HA3.out _ hk5
  go_wp2_with fail
  refine (HS1.out _ hk5).mono ?_
  rintro e z6 ⟨v6, f6, rfl, hc6, hf6, hb6⟩
  obtain ⟨q0, q1, q2, q3, q4, q5, rfl⟩ := hc6.agg
  have hal6 : Below z6.heap.size z6 (z6.alloc (Obj.cells #[.int .i64 q0, .int .i64 q1, .int .i64 q2, .slice q4 q3 q5] 30)) := (Below.refl _ _).alloc (Nat.le_refl _) _
  have hk6 := below_trans hb6 hal6
  have hB6 := alloc_new z6 (Obj.cells #[.int .i64 q0, .int .i64 q1, .int .i64 q2, .slice q4 q3 q5] 30)
  replace hc6 := hc6.below hal6
  replace hf6 := hf6.below hal6
  clear hb6
  go_upto_region 7 with (fail)
  generalize hx6 : z6.alloc (Obj.cells #[.int .i64 q0, .int .i64 q1, .int .i64 q2, .slice q4 q3 q5] 30) = W6 at hk6 hB6 hc6 hf6 ⊢
  generalize z6.heap.size = B6 at hB6 ⊢
  clear hal6 hx6
  have hk56 := below_trans hk5 hk6
  replace hB5 := blk hB5 hk6
  replace hc5 := hc5.below hk6
  replace hf5 := hf5.below hk6
  clear x0 x1 x4 x5 hk5 hk6
  obtain ⟨x2, x3⟩ := HA2.out _ hk56
  obtain ⟨x4, x5⟩ := HA3.out _ hk56
  go_wp2_with fail
  refine (HC2.out _ hk56).mono ?_
  rintro e z7 ⟨v7, f7, rfl, hc7, hf7, hb7⟩
  obtain ⟨s0, s1, s2, s3, s4, s5, rfl⟩ := hc7.agg
  have hal7 : Below z7.heap.size z7 (z7.alloc (Obj.cells #[.int .i64 s0, .int .i64 s1, .int .i64 s2, .slice s4 s3 s5] 30)) := (Below.refl _ _).alloc (Nat.le_refl _) _
  have hk7 := below_trans hb7 hal7
  have hB7 := alloc_new z7 (Obj.cells #[.int .i64 s0, .int .i64 s1, .int .i64 s2, .slice s4 s3 s5] 30)
  replace hc7 := hc7.below hal7
  replace hf7 := hf7.below hal7
  clear hb7
  go_upto_region 8 with (fail)
  generalize hx7 : z7.alloc (Obj.cells #[.int .i64 s0, .int .i64 s1, .int .i64 s2, .slice s4 s3 s5] 30) = W7 at hk7 hB7 hc7 hf7 ⊢
  generalize z7.heap.size = B7 at hB7 ⊢
  clear hal7 hx7
  have hk := below_trans hk56 hk7
  replace hB5 := blk hB5 hk7
  replace hB6 := blk hB6 hk7
  replace hc5 := hc5.below hk7
  replace hc6 := hc6.below hk7
  replace hf5 := hf5.below hk7
  replace hf6 := hf6.below hk7
  clear x2 x3 x4 x5 hk56 hk7 hf7
  have HP := hid (fun (W : World) (h : Below W7.heap.size W7 W) => (show W.cell? ⟨B5, 0, none⟩ = some (.int .i64 p0) ∧ W.cell? ⟨B5, 1, none⟩ = some (.int .i64 p1) ∧ W.cell? ⟨B5, 2, none⟩ = some (.int .i64 p2) ∧ W.cell? ⟨B5, 3, none⟩ = some (.slice p4 p3 p5) from by
    have e3 := blk hB5 h
    exact ⟨by rw [cell_of_block e3]; rfl, by rw [cell_of_block e3]; rfl, by rw [cell_of_block e3]; rfl, by rw [cell_of_block e3]; rfl⟩))
  have HQ := hid (fun (W : World) (h : Below W7.heap.size W7 W) => (show W.cell? ⟨B6, 0, none⟩ = some (.int .i64 q0) ∧ W.cell? ⟨B6, 1, none⟩ = some (.int .i64 q1) ∧ W.cell? ⟨B6, 2, none⟩ = some (.int .i64 q2) ∧ W.cell? ⟨B6, 3, none⟩ = some (.slice q4 q3 q5) from by
    have e3 := blk hB6 h
    exact ⟨by rw [cell_of_block e3]; rfl, by rw [cell_of_block e3]; rfl, by rw [cell_of_block e3]; rfl, by rw [cell_of_block e3]; rfl⟩))
  have HSS := hid (fun (W : World) (h : Below W7.heap.size W7 W) => (show W.cell? ⟨B7, 0, none⟩ = some (.int .i64 s0) ∧ W.cell? ⟨B7, 1, none⟩ = some (.int .i64 s1) ∧ W.cell? ⟨B7, 2, none⟩ = some (.int .i64 s2) ∧ W.cell? ⟨B7, 3, none⟩ = some (.slice s4 s3 s5) from by
    have e3 := blk hB7 h
    exact ⟨by rw [cell_of_block e3]; rfl, by rw [cell_of_block e3]; rfl, by rw [cell_of_block e3]; rfl, by rw [cell_of_block e3]; rfl⟩))
  have HSM := hid (fun (W : World) (h : Below W7.heap.size W7 W) => (by
    have q := implCoercionSame C C _ _ f5 f6 W (by have := HCN.out; omega) (hc5.below h) (hc6.below h) (Fresh.rawQ (hc5.below h) (hf5.below h)) (Fresh.rawQ (hc6.below h) (hf6.below h))
    rw [coEq_refl] at q
    exact q : Calls Try.prog 16 #[.agg #[.int .i64 p0, .int .i64 p1, .int .i64 p2, .slice p4 p3 p5], .agg #[.int .i64 q0, .int .i64 q1, .int .i64 q2, .slice q4 q3 q5]] W fun e w' => e = .returned (.bool true) ∧ Below W.heap.size W w'))
  have HCM := hid (fun (W : World) (h : Below W7.heap.size W7 W) => implCompose C E _ _ f5 f7 W (hc5.below h) (hc7.below h))
  generalize cmpOf C E = Z at *
  generalize cmpOk C E = okZ at *
  have HBW := hid (below_trans hbw hk)
  have HK := hid hk
  clear hc5 hc6 hc7 hf5 hf6 hB5 hB6 hB7 hbw hk HC1 HS1 HC2
  have h0 := Below.refl W7.heap.size W7
  obtain ⟨p00, p01, p02, p03⟩ := HP.out _ h0
  obtain ⟨q00, q01, q02, q03⟩ := HQ.out _ h0
  cases ok1 with
  | false =>
    go_wp2_with fail
    refine (HSM.out _ h0).mono ?_
    rintro e w5 ⟨rfl, hb5⟩
    clear p00 p01 p02 p03 q00 q01 q02 q03 h0
    obtain ⟨p00, p01, p02, p03⟩ := HP.out _ hb5
    obtain ⟨q00, q01, q02, q03⟩ := HQ.out _ hb5
    go_wp2_with fail
    refine (HSM.out _ hb5).mono ?_
    rintro e w6 ⟨rfl, hb6⟩
    have hbf := below_trans HBW.out (below_trans hb5 hb6)
    go_wp2_with fail
    go_ret
    exact ⟨rfl, hbf⟩
  | true =>
    cases ok2 with
    | false =>
      go_wp2_with fail
      refine (HSM.out _ h0).mono ?_
      rintro e w5 ⟨rfl, hb5⟩
      clear p00 p01 p02 p03 q00 q01 q02 q03 h0
      obtain ⟨p00, p01, p02, p03⟩ := HP.out _ hb5
      obtain ⟨q00, q01, q02, q03⟩ := HQ.out _ hb5
      go_wp2_with fail
      refine (HSM.out _ hb5).mono ?_
      rintro e w6 ⟨rfl, hb6⟩
      have hbf := below_trans HBW.out (below_trans hb5 hb6)
      go_wp2_with fail
      go_ret
      exact ⟨rfl, hbf⟩
    | true =>
      obtain ⟨hoz, hzt, hze⟩ := HCH.out rfl rfl
      subst hoz
      have HZT := hid hzt
      have HZE := hid hze
      clear hzt hze HCH
      go_wp2_with fail
      refine (HSM.out _ h0).mono ?_
      rintro e w5 ⟨rfl, hb5⟩
      clear p00 p01 p02 p03 q00 q01 q02 q03 h0
      obtain ⟨p00, p01, p02, p03⟩ := HP.out _ hb5
      obtain ⟨s00, s01, s02, s03⟩ := HSS.out _ hb5
      go_wp2_with fail
      refine (HCM.out _ hb5).mono ?_
      rintro e w6 ⟨vz, fz, rfl, hz, hfz, hb6⟩
      obtain ⟨r0, r1, r2, r3, r4, r5, rfl⟩ := hz.agg
      have hal6 : Below w6.heap.size w6 (w6.alloc (Obj.cells #[.int .i64 r0, .int .i64 r1, .int .i64 r2, .slice r4 r3 r5] 30)) := (Below.refl _ _).alloc (Nat.le_refl _) _
      have hZ := alloc_new w6 (Obj.cells #[.int .i64 r0, .int .i64 r1, .int .i64 r2, .slice r4 r3 r5] 30)
      have hk6 := below_trans (below_trans hb5 hb6) hal6
      replace hz := hz.below hal6
      replace hfz := hfz.below hal6
      clear hb5 hb6 p00 p01 p02 p03 s00 s01 s02 s03
      go_upto_region 11 with (fail)
      generalize hx6 : w6.alloc (Obj.cells #[.int .i64 r0, .int .i64 r1, .int .i64 r2, .slice r4 r3 r5] 30) = W8 at hk6 hZ hz hfz ⊢
      generalize w6.heap.size = R at hZ ⊢
      clear hal6 hx6
      have hk48 := below_trans HK.out hk6
      have HBF := hid (below_trans HBW.out hk6)
      obtain ⟨x0, x1⟩ := HA1.out _ hk48
      obtain ⟨x2, x3⟩ := HA2.out _ hk48
      go_wp2_with fail
      refine (HC3.out _ hk48).mono ?_
      rintro e z9 ⟨v9, f9, rfl, hc9, hf9, hb9⟩
      obtain ⟨u0, u1, u2, u3, u4, u5, rfl⟩ := hc9.agg
      have hal9 : Below z9.heap.size z9 (z9.alloc (Obj.cells #[.int .i64 u0, .int .i64 u1, .int .i64 u2, .slice u4 u3 u5] 30)) := (Below.refl _ _).alloc (Nat.le_refl _) _
      have hk9 := below_trans hb9 hal9
      have hB9 := alloc_new z9 (Obj.cells #[.int .i64 u0, .int .i64 u1, .int .i64 u2, .slice u4 u3 u5] 30)
      replace hc9 := hc9.below hal9
      replace hf9 := hf9.below hal9
      clear hb9
      go_upto_region 12 with (fail)
      generalize hx9 : z9.alloc (Obj.cells #[.int .i64 u0, .int .i64 u1, .int .i64 u2, .slice u4 u3 u5] 30) = W9 at hk9 hB9 hc9 hf9 ⊢
      generalize z9.heap.size = B9 at hB9 ⊢
      clear hal9 hx9
      have hk49 := below_trans hk48 hk9
      replace hZ := blk hZ hk9
      replace hz := hz.below hk9
      replace hfz := hfz.below hk9
      have HBG := hid (below_trans HBF.out hk9)
      clear x0 x1 x2 x3
      have HR := hid (fun (W : World) (h : Below W9.heap.size W9 W) => (show W.cell? ⟨R, 0, none⟩ = some (.int .i64 r0) ∧ W.cell? ⟨R, 1, none⟩ = some (.int .i64 r1) ∧ W.cell? ⟨R, 2, none⟩ = some (.int .i64 r2) ∧ W.cell? ⟨R, 3, none⟩ = some (.slice r4 r3 r5) from by
        have e3 := blk hZ h
        exact ⟨by rw [cell_of_block e3]; rfl, by rw [cell_of_block e3]; rfl, by rw [cell_of_block e3]; rfl, by rw [cell_of_block e3]; rfl⟩))
      have HU := hid (fun (W : World) (h : Below W9.heap.size W9 W) => (show W.cell? ⟨B9, 0, none⟩ = some (.int .i64 u0) ∧ W.cell? ⟨B9, 1, none⟩ = some (.int .i64 u1) ∧ W.cell? ⟨B9, 2, none⟩ = some (.int .i64 u2) ∧ W.cell? ⟨B9, 3, none⟩ = some (.slice u4 u3 u5) from by
        have e3 := blk hB9 h
        exact ⟨by rw [cell_of_block e3]; rfl, by rw [cell_of_block e3]; rfl, by rw [cell_of_block e3]; rfl, by rw [cell_of_block e3]; rfl⟩))
      obtain ⟨x0, x1⟩ := HA1.out _ hk49
      obtain ⟨x2, x3⟩ := HA2.out _ hk49
      go_wp2_with fail
      refine (HTS.out _ hk49).mono ?_
      rintro e w10 ⟨rfl, hb10⟩
      have hk410 := below_trans hk49 hb10
      clear x0 x1 x2 x3
      obtain ⟨r00, r01, r02, r03⟩ := HR.out _ hb10
      cases tt with
      | true =>
        obtain ⟨hok3, hzf, hid1⟩ := HZE.out rfl
        subst hok3
        obtain ⟨u00, u01, u02, u03⟩ := HU.out _ hb10
        have HSM2 := hid (by
          have q := implCoercionSame Z F _ _ fz f9 w10 HZN.out (hz.below hb10) (hc9.below hb10) (Fresh.rawQ (hz.below hb10) (hfz.below hb10)) (Fresh.rawQ (hc9.below hb10) (hf9.below hb10))
          rw [hzf, coEq_refl] at q
          exact q : Calls Try.prog 16 #[.agg #[.int .i64 r0, .int .i64 r1, .int .i64 r2, .slice r4 r3 r5], .agg #[.int .i64 u0, .int .i64 u1, .int .i64 u2, .slice u4 u3 u5]] w10 fun e w' => e = .returned (.bool true) ∧ Below w10.heap.size w10 w')
        have HIDN := hid (fun (W : World) (h : Below w10.heap.size w10 W) => (by
          have q := implCoercionIdentity Z _ _ W ((hz.below hb10).below h) (by rw [hzf]; have := HFN.out; omega)
          rw [hid1] at q
          exact q : Calls Try.prog 20 #[.agg #[.int .i64 r0, .int .i64 r1, .int .i64 r2, .slice r4 r3 r5]] W fun e w' => e = .returned (.bool true) ∧ Below W.heap.size W w'))
        have HR2 := hid (fun (W : World) (h : Below w10.heap.size w10 W) => HR.out W (below_trans hb10 h))
        clear hz hfz hc9 hf9 hzf hid1
        go_wp2_with fail
        refine HSM2.out.mono ?_
        rintro e w11 ⟨rfl, hb11⟩
        clear r00 r01 r02 r03 u00 u01 u02 u03
        obtain ⟨r00, r01, r02, r03⟩ := HR2.out _ hb11
        go_wp2_with fail
        refine (HIDN.out _ hb11).mono ?_
        rintro e w12 ⟨rfl, hb12⟩
        have hbf := below_trans HBG.out (below_trans hb10 (below_trans hb11 hb12))
        go_wp2_with fail
        go_ret
        exact ⟨rfl, hbf⟩
      | false =>
        obtain ⟨x0, x1⟩ := HA1.out _ hk410
        obtain ⟨x2, x3⟩ := HA2.out _ hk410
        have HT2 := hid (by
          have q := HTY.out Z _ _ w10 hk410 (hz.below hb10)
          rw [HZT.out] at q
          exact q : Calls Try.prog 19 #[.agg #[.int .i64 r0, .int .i64 r1, .int .i64 r2, .slice r4 r3 r5], .agg #[.int .i64 k1, .slice a1 n1 c1], .agg #[.int .i64 k2, .slice a2 n2 c2]] w10 fun e w' => e = .returned (.bool true) ∧ Below w10.heap.size w10 w')
        go_wp2_with fail
        refine HT2.out.mono ?_
        rintro e w11 ⟨rfl, hb11⟩
        have hbf := below_trans HBG.out (below_trans hb10 hb11)
        go_wp2_with fail
        go_ret
        exact ⟨rfl, hbf⟩
end Go.Proofs.Ytolhfcpmhhhjpaa

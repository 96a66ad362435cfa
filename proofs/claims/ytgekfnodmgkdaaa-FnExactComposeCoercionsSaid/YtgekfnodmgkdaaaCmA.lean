/- The specification's l6Compose, where it copies one of its arguments. -/
import Derived.Test.YtgekfnodmgkdaaaCom
namespace Go.Proofs.Ytgekfnodmgkdaaa
open Go.RowKit

set_option maxRecDepth 100000 in
set_option maxHeartbeats 1000000 in
theorem l6Compose_unk (n : Nat) (kb gb : Int) (la lb : Int) (ts us : List Co) (va vb : Value) (fa fb : List Nat) (w : World)  (hna : (Co.mk 1 1 la ts).cnt ≤ 1048576) (hnb : (Co.mk kb gb lb us).cnt ≤ 1048576) (hata : (Co.mk 1 1 la ts).At w va fa) (hatb : (Co.mk kb gb lb us).At w vb fb) :
    Calls Try.prog 34 #[va, vb] w (MadeO w (cmpo (n + 1) (.mk 1 1 la ts) (.mk kb gb lb us))) := by
  have hata0 := hata
  have hatb0 := hatb
  obtain ⟨sa, rfl, hsa⟩ := Co.at_mk.1 hata
  obtain ⟨sb, rfl, hsb⟩ := Co.at_mk.1 hatb
  obtain ⟨aa, ca, rfl⟩ := hsa.shape
  obtain ⟨ab, cb, rfl⟩ := hsb.shape
  generalize hla : ts.length = na at *
  generalize hlb : us.length = nb at *
  have hb0 : Below w.heap.size w (((w.alloc (Obj.cells #[.int .i64 1, .int .i64 1, .int .i64 la, .slice aa na ca] 44)).alloc (Obj.cells #[.int .i64 kb, .int .i64 gb, .int .i64 lb, .slice ab nb cb] 44)).alloc (Obj.cells #[.int .i64 0, .int .i64 0, .int .i64 0, .slice none 0 0] 44)) := (((Below.refl _ _).alloc (Nat.le_refl _) _).alloc (by simp) _).alloc (by simp; omega) _
  have hs0 : ((((w.alloc (Obj.cells #[.int .i64 1, .int .i64 1, .int .i64 la, .slice aa na ca] 44)).alloc (Obj.cells #[.int .i64 kb, .int .i64 gb, .int .i64 lb, .slice ab nb cb] 44)).alloc (Obj.cells #[.int .i64 0, .int .i64 0, .int .i64 0, .slice none 0 0] 44))).heap.size = w.heap.size + 1 + 1 + 1 := by simp
  obtain ⟨_, _, bZ⟩ := three3 (Below.refl ((((w.alloc (Obj.cells #[.int .i64 1, .int .i64 1, .int .i64 la, .slice aa na ca] 44)).alloc (Obj.cells #[.int .i64 kb, .int .i64 gb, .int .i64 lb, .slice ab nb cb] 44)).alloc (Obj.cells #[.int .i64 0, .int .i64 0, .int .i64 0, .slice none 0 0] 44))).heap.size (((w.alloc (Obj.cells #[.int .i64 1, .int .i64 1, .int .i64 la, .slice aa na ca] 44)).alloc (Obj.cells #[.int .i64 kb, .int .i64 gb, .int .i64 lb, .slice ab nb cb] 44)).alloc (Obj.cells #[.int .i64 0, .int .i64 0, .int .i64 0, .slice none 0 0] 44)))
  have HA := hid (And.intro (hata0.below hb0) hna)
  have HB := hid (And.intro (hatb0.below hb0) hnb)
  clear hata hatb hata0 hatb0 hsa hsb hla hlb hna hnb
  by_cases h0 : kb = 5
  case pos =>
    have hr : cmpo (n + 1) (.mk 1 1 la ts) (.mk kb gb lb us) = some (Co.mk kb gb lb us) := by simp [cmpo, cmpN, h0]
    have HT := hid (show (cmpo (n + 1) (.mk 1 1 la ts) (.mk kb gb lb us)).isSome = true ∧ ∀ c, cmpo (n + 1) (.mk 1 1 la ts) (.mk kb gb lb us) = some c → c = Co.mk kb gb lb us from by rw [hr]; exact ⟨rfl, fun c h => (Option.some.inj h).symm⟩)
    have q0 : (kb == 5) = true := by first | (rw [beq_iff_eq]; omega) | (rw [beq_eq_false_iff_ne]; omega)
    clear hr h0
    go_enter Try.func34, Try.ntmps34
    go_wp2_with fail
    refine (l6Copy_any _ _ _ _ HB.out.1 HB.out.2).mono ?_
    rintro e w1 ⟨v1, f1, rfl, hat1, hf1, hb1⟩
    obtain ⟨p0, p1, p2, pn, pa, pc, rfl⟩ := hat1.agg
    have bM := (hb1.block (w.heap.size + 1 + 1) (by omega)).trans bZ
    have z0 := (cell_of_block (o := 0) bM).trans (show _ = some (.int .i64 0) from rfl)
    have z1 := (cell_of_block (o := 1) bM).trans (show _ = some (.int .i64 0) from rfl)
    have z2 := (cell_of_block (o := 2) bM).trans (show _ = some (.int .i64 0) from rfl)
    have z3 := (cell_of_block (o := 3) bM).trans (show _ = some (.slice none 0 0) from rfl)
    have yz := fun o => frozen_of_block (o := o) bM
    have FIN := closeO (w := w) (wF := w1) (M := w.heap.size + 1 + 1) (lo := w.heap.size + 1 + 1 + 1) (b := true) HT.out.1 (fun c hc => ⟨f1, by rw [HT.out.2 c hc]; exact hat1, hf1.mono (by omega)⟩) (by omega) (by omega) (below_trans hb0 hb1)
    simp only [put4, Nat.zero_add] at FIN
    go_wp2_with fail
    exact bodyPost_ret (v := .tuple #[.agg #[.int .i64 p0, .int .i64 p1, .int .i64 p2, .slice pa pn pc], .bool true]) (by simp [results, Try.results34, go_sem, z0, z1, z2, z3]) rfl FIN
  by_cases h1 : kb = 1 ∧ gb = 1
  case pos =>
    have hr : cmpo (n + 1) (.mk 1 1 la ts) (.mk kb gb lb us) = some (Co.mk kb gb lb us) := by simp [cmpo, cmpN, h1]
    have HT := hid (show (cmpo (n + 1) (.mk 1 1 la ts) (.mk kb gb lb us)).isSome = true ∧ ∀ c, cmpo (n + 1) (.mk 1 1 la ts) (.mk kb gb lb us) = some c → c = Co.mk kb gb lb us from by rw [hr]; exact ⟨rfl, fun c h => (Option.some.inj h).symm⟩)
    have q0 : (kb == 5) = false := by first | (rw [beq_iff_eq]; omega) | (rw [beq_eq_false_iff_ne]; omega)
    have q1 : (kb == 1) = true := by first | (rw [beq_iff_eq]; omega) | (rw [beq_eq_false_iff_ne]; omega)
    have q2 : (gb == 1) = true := by first | (rw [beq_iff_eq]; omega) | (rw [beq_eq_false_iff_ne]; omega)
    clear hr h0 h1
    go_enter Try.func34, Try.ntmps34
    go_wp2_with fail
    refine (l6Copy_any _ _ _ _ HB.out.1 HB.out.2).mono ?_
    rintro e w1 ⟨v1, f1, rfl, hat1, hf1, hb1⟩
    obtain ⟨p0, p1, p2, pn, pa, pc, rfl⟩ := hat1.agg
    have bM := (hb1.block (w.heap.size + 1 + 1) (by omega)).trans bZ
    have z0 := (cell_of_block (o := 0) bM).trans (show _ = some (.int .i64 0) from rfl)
    have z1 := (cell_of_block (o := 1) bM).trans (show _ = some (.int .i64 0) from rfl)
    have z2 := (cell_of_block (o := 2) bM).trans (show _ = some (.int .i64 0) from rfl)
    have z3 := (cell_of_block (o := 3) bM).trans (show _ = some (.slice none 0 0) from rfl)
    have yz := fun o => frozen_of_block (o := o) bM
    have FIN := closeO (w := w) (wF := w1) (M := w.heap.size + 1 + 1) (lo := w.heap.size + 1 + 1 + 1) (b := true) HT.out.1 (fun c hc => ⟨f1, by rw [HT.out.2 c hc]; exact hat1, hf1.mono (by omega)⟩) (by omega) (by omega) (below_trans hb0 hb1)
    simp only [put4, Nat.zero_add] at FIN
    go_wp2_with fail
    exact bodyPost_ret (v := .tuple #[.agg #[.int .i64 p0, .int .i64 p1, .int .i64 p2, .slice pa pn pc], .bool true]) (by simp [results, Try.results34, go_sem, z0, z1, z2, z3]) rfl FIN
  by_cases h2 : kb = 1
  case pos =>
    have hr : cmpo (n + 1) (.mk 1 1 la ts) (.mk kb gb lb us) = none := by simp [cmpo, cmpN, h2, show ¬ gb = 1 by omega]
    have HT := hid (show (cmpo (n + 1) (.mk 1 1 la ts) (.mk kb gb lb us)).isSome = false ∧ ∀ c, cmpo (n + 1) (.mk 1 1 la ts) (.mk kb gb lb us) = some c → c = Co.mk kb gb lb us from by rw [hr]; exact ⟨rfl, fun c h => by cases h⟩)
    have q0 : (kb == 5) = false := by first | (rw [beq_iff_eq]; omega) | (rw [beq_eq_false_iff_ne]; omega)
    have q1 : (kb == 1) = true := by first | (rw [beq_iff_eq]; omega) | (rw [beq_eq_false_iff_ne]; omega)
    have q2 : (gb == 1) = false := by first | (rw [beq_iff_eq]; omega) | (rw [beq_eq_false_iff_ne]; omega)
    clear hr h0 h1 h2
    go_enter Try.func34, Try.ntmps34
    go_wp2_with fail
    refine (l6Copy_any _ _ _ _ HB.out.1 HB.out.2).mono ?_
    rintro e w1 ⟨v1, f1, rfl, hat1, hf1, hb1⟩
    obtain ⟨p0, p1, p2, pn, pa, pc, rfl⟩ := hat1.agg
    have bM := (hb1.block (w.heap.size + 1 + 1) (by omega)).trans bZ
    have z0 := (cell_of_block (o := 0) bM).trans (show _ = some (.int .i64 0) from rfl)
    have z1 := (cell_of_block (o := 1) bM).trans (show _ = some (.int .i64 0) from rfl)
    have z2 := (cell_of_block (o := 2) bM).trans (show _ = some (.int .i64 0) from rfl)
    have z3 := (cell_of_block (o := 3) bM).trans (show _ = some (.slice none 0 0) from rfl)
    have yz := fun o => frozen_of_block (o := o) bM
    have FIN := closeO (w := w) (wF := w1) (M := w.heap.size + 1 + 1) (lo := w.heap.size + 1 + 1 + 1) (b := false) HT.out.1 (fun c hc => ⟨f1, by rw [HT.out.2 c hc]; exact hat1, hf1.mono (by omega)⟩) (by omega) (by omega) (below_trans hb0 hb1)
    simp only [put4, Nat.zero_add] at FIN
    go_wp2_with fail
    exact bodyPost_ret (v := .tuple #[.agg #[.int .i64 p0, .int .i64 p1, .int .i64 p2, .slice pa pn pc], .bool false]) (by simp [results, Try.results34, go_sem, z0, z1, z2, z3]) rfl FIN
  have hr : cmpo (n + 1) (.mk 1 1 la ts) (.mk kb gb lb us) = none := by simp [cmpo, cmpN, h0, h2]
  have HT := hid (show (cmpo (n + 1) (.mk 1 1 la ts) (.mk kb gb lb us)).isSome = false ∧ ∀ c, cmpo (n + 1) (.mk 1 1 la ts) (.mk kb gb lb us) = some c → c = Co.mk kb gb lb us from by rw [hr]; exact ⟨rfl, fun c h => by cases h⟩)
  have q0 : (kb == 5) = false := by first | (rw [beq_iff_eq]; omega) | (rw [beq_eq_false_iff_ne]; omega)
  have q1 : (kb == 1) = false := by first | (rw [beq_iff_eq]; omega) | (rw [beq_eq_false_iff_ne]; omega)
  clear hr h0 h1 h2
  go_enter Try.func34, Try.ntmps34
  go_wp2_with fail
  refine (l6Copy_any _ _ _ _ HB.out.1 HB.out.2).mono ?_
  rintro e w1 ⟨v1, f1, rfl, hat1, hf1, hb1⟩
  obtain ⟨p0, p1, p2, pn, pa, pc, rfl⟩ := hat1.agg
  have bM := (hb1.block (w.heap.size + 1 + 1) (by omega)).trans bZ
  have z0 := (cell_of_block (o := 0) bM).trans (show _ = some (.int .i64 0) from rfl)
  have z1 := (cell_of_block (o := 1) bM).trans (show _ = some (.int .i64 0) from rfl)
  have z2 := (cell_of_block (o := 2) bM).trans (show _ = some (.int .i64 0) from rfl)
  have z3 := (cell_of_block (o := 3) bM).trans (show _ = some (.slice none 0 0) from rfl)
  have yz := fun o => frozen_of_block (o := o) bM
  have FIN := closeO (w := w) (wF := w1) (M := w.heap.size + 1 + 1) (lo := w.heap.size + 1 + 1 + 1) (b := false) HT.out.1 (fun c hc => ⟨f1, by rw [HT.out.2 c hc]; exact hat1, hf1.mono (by omega)⟩) (by omega) (by omega) (below_trans hb0 hb1)
  simp only [put4, Nat.zero_add] at FIN
  go_wp2_with fail
  exact bodyPost_ret (v := .tuple #[.agg #[.int .i64 p0, .int .i64 p1, .int .i64 p2, .slice pa pn pc], .bool false]) (by simp [results, Try.results34, go_sem, z0, z1, z2, z3]) rfl FIN

set_option maxRecDepth 100000 in
set_option maxHeartbeats 1000000 in
theorem l6Compose_fail (n : Nat) (ga kb gb : Int) (la lb : Int) (ts us : List Co) (va vb : Value) (fa fb : List Nat) (w : World)  (hna : (Co.mk 6 ga la ts).cnt ≤ 1048576) (hnb : (Co.mk kb gb lb us).cnt ≤ 1048576) (hata : (Co.mk 6 ga la ts).At w va fa) (hatb : (Co.mk kb gb lb us).At w vb fb) :
    Calls Try.prog 34 #[va, vb] w (MadeO w (cmpo (n + 1) (.mk 6 ga la ts) (.mk kb gb lb us))) := by
  have hata0 := hata
  have hatb0 := hatb
  obtain ⟨sa, rfl, hsa⟩ := Co.at_mk.1 hata
  obtain ⟨sb, rfl, hsb⟩ := Co.at_mk.1 hatb
  obtain ⟨aa, ca, rfl⟩ := hsa.shape
  obtain ⟨ab, cb, rfl⟩ := hsb.shape
  generalize hla : ts.length = na at *
  generalize hlb : us.length = nb at *
  have hb0 : Below w.heap.size w (((w.alloc (Obj.cells #[.int .i64 6, .int .i64 ga, .int .i64 la, .slice aa na ca] 44)).alloc (Obj.cells #[.int .i64 kb, .int .i64 gb, .int .i64 lb, .slice ab nb cb] 44)).alloc (Obj.cells #[.int .i64 0, .int .i64 0, .int .i64 0, .slice none 0 0] 44)) := (((Below.refl _ _).alloc (Nat.le_refl _) _).alloc (by simp) _).alloc (by simp; omega) _
  have hs0 : ((((w.alloc (Obj.cells #[.int .i64 6, .int .i64 ga, .int .i64 la, .slice aa na ca] 44)).alloc (Obj.cells #[.int .i64 kb, .int .i64 gb, .int .i64 lb, .slice ab nb cb] 44)).alloc (Obj.cells #[.int .i64 0, .int .i64 0, .int .i64 0, .slice none 0 0] 44))).heap.size = w.heap.size + 1 + 1 + 1 := by simp
  obtain ⟨_, _, bZ⟩ := three3 (Below.refl ((((w.alloc (Obj.cells #[.int .i64 6, .int .i64 ga, .int .i64 la, .slice aa na ca] 44)).alloc (Obj.cells #[.int .i64 kb, .int .i64 gb, .int .i64 lb, .slice ab nb cb] 44)).alloc (Obj.cells #[.int .i64 0, .int .i64 0, .int .i64 0, .slice none 0 0] 44))).heap.size (((w.alloc (Obj.cells #[.int .i64 6, .int .i64 ga, .int .i64 la, .slice aa na ca] 44)).alloc (Obj.cells #[.int .i64 kb, .int .i64 gb, .int .i64 lb, .slice ab nb cb] 44)).alloc (Obj.cells #[.int .i64 0, .int .i64 0, .int .i64 0, .slice none 0 0] 44)))
  have HA := hid (And.intro (hata0.below hb0) hna)
  have HB := hid (And.intro (hatb0.below hb0) hnb)
  clear hata hatb hata0 hatb0 hsa hsb hla hlb hna hnb
  by_cases h0 : kb = 5
  case pos =>
    have hr : cmpo (n + 1) (.mk 6 ga la ts) (.mk kb gb lb us) = some (Co.mk 6 ga la ts) := by simp [cmpo, cmpN]
    have HT := hid (show (cmpo (n + 1) (.mk 6 ga la ts) (.mk kb gb lb us)).isSome = true ∧ ∀ c, cmpo (n + 1) (.mk 6 ga la ts) (.mk kb gb lb us) = some c → c = Co.mk 6 ga la ts from by rw [hr]; exact ⟨rfl, fun c h => (Option.some.inj h).symm⟩)
    have q0 : (kb == 5) = true := by first | (rw [beq_iff_eq]; omega) | (rw [beq_eq_false_iff_ne]; omega)
    clear hr h0
    go_enter Try.func34, Try.ntmps34
    go_wp2_with fail
    refine (l6Copy_any _ _ _ _ HA.out.1 HA.out.2).mono ?_
    rintro e w1 ⟨v1, f1, rfl, hat1, hf1, hb1⟩
    obtain ⟨p0, p1, p2, pn, pa, pc, rfl⟩ := hat1.agg
    have bM := (hb1.block (w.heap.size + 1 + 1) (by omega)).trans bZ
    have z0 := (cell_of_block (o := 0) bM).trans (show _ = some (.int .i64 0) from rfl)
    have z1 := (cell_of_block (o := 1) bM).trans (show _ = some (.int .i64 0) from rfl)
    have z2 := (cell_of_block (o := 2) bM).trans (show _ = some (.int .i64 0) from rfl)
    have z3 := (cell_of_block (o := 3) bM).trans (show _ = some (.slice none 0 0) from rfl)
    have yz := fun o => frozen_of_block (o := o) bM
    have FIN := closeO (w := w) (wF := w1) (M := w.heap.size + 1 + 1) (lo := w.heap.size + 1 + 1 + 1) (b := true) HT.out.1 (fun c hc => ⟨f1, by rw [HT.out.2 c hc]; exact hat1, hf1.mono (by omega)⟩) (by omega) (by omega) (below_trans hb0 hb1)
    simp only [put4, Nat.zero_add] at FIN
    go_wp2_with fail
    exact bodyPost_ret (v := .tuple #[.agg #[.int .i64 p0, .int .i64 p1, .int .i64 p2, .slice pa pn pc], .bool true]) (by simp [results, Try.results34, go_sem, z0, z1, z2, z3]) rfl FIN
  by_cases h1 : kb = 1 ∧ gb = 1
  case pos =>
    have hr : cmpo (n + 1) (.mk 6 ga la ts) (.mk kb gb lb us) = some (Co.mk 6 ga la ts) := by simp [cmpo, cmpN]
    have HT := hid (show (cmpo (n + 1) (.mk 6 ga la ts) (.mk kb gb lb us)).isSome = true ∧ ∀ c, cmpo (n + 1) (.mk 6 ga la ts) (.mk kb gb lb us) = some c → c = Co.mk 6 ga la ts from by rw [hr]; exact ⟨rfl, fun c h => (Option.some.inj h).symm⟩)
    have q0 : (kb == 5) = false := by first | (rw [beq_iff_eq]; omega) | (rw [beq_eq_false_iff_ne]; omega)
    have q1 : (kb == 1) = true := by first | (rw [beq_iff_eq]; omega) | (rw [beq_eq_false_iff_ne]; omega)
    have q2 : (gb == 1) = true := by first | (rw [beq_iff_eq]; omega) | (rw [beq_eq_false_iff_ne]; omega)
    clear hr h0 h1
    go_enter Try.func34, Try.ntmps34
    go_wp2_with fail
    refine (l6Copy_any _ _ _ _ HA.out.1 HA.out.2).mono ?_
    rintro e w1 ⟨v1, f1, rfl, hat1, hf1, hb1⟩
    obtain ⟨p0, p1, p2, pn, pa, pc, rfl⟩ := hat1.agg
    have bM := (hb1.block (w.heap.size + 1 + 1) (by omega)).trans bZ
    have z0 := (cell_of_block (o := 0) bM).trans (show _ = some (.int .i64 0) from rfl)
    have z1 := (cell_of_block (o := 1) bM).trans (show _ = some (.int .i64 0) from rfl)
    have z2 := (cell_of_block (o := 2) bM).trans (show _ = some (.int .i64 0) from rfl)
    have z3 := (cell_of_block (o := 3) bM).trans (show _ = some (.slice none 0 0) from rfl)
    have yz := fun o => frozen_of_block (o := o) bM
    have FIN := closeO (w := w) (wF := w1) (M := w.heap.size + 1 + 1) (lo := w.heap.size + 1 + 1 + 1) (b := true) HT.out.1 (fun c hc => ⟨f1, by rw [HT.out.2 c hc]; exact hat1, hf1.mono (by omega)⟩) (by omega) (by omega) (below_trans hb0 hb1)
    simp only [put4, Nat.zero_add] at FIN
    go_wp2_with fail
    exact bodyPost_ret (v := .tuple #[.agg #[.int .i64 p0, .int .i64 p1, .int .i64 p2, .slice pa pn pc], .bool true]) (by simp [results, Try.results34, go_sem, z0, z1, z2, z3]) rfl FIN
  by_cases h2 : kb = 1
  case pos =>
    have hr : cmpo (n + 1) (.mk 6 ga la ts) (.mk kb gb lb us) = some (Co.mk 6 ga la ts) := by simp [cmpo, cmpN]
    have HT := hid (show (cmpo (n + 1) (.mk 6 ga la ts) (.mk kb gb lb us)).isSome = true ∧ ∀ c, cmpo (n + 1) (.mk 6 ga la ts) (.mk kb gb lb us) = some c → c = Co.mk 6 ga la ts from by rw [hr]; exact ⟨rfl, fun c h => (Option.some.inj h).symm⟩)
    have q0 : (kb == 5) = false := by first | (rw [beq_iff_eq]; omega) | (rw [beq_eq_false_iff_ne]; omega)
    have q1 : (kb == 1) = true := by first | (rw [beq_iff_eq]; omega) | (rw [beq_eq_false_iff_ne]; omega)
    have q2 : (gb == 1) = false := by first | (rw [beq_iff_eq]; omega) | (rw [beq_eq_false_iff_ne]; omega)
    clear hr h0 h1 h2
    go_enter Try.func34, Try.ntmps34
    go_wp2_with fail
    refine (l6Copy_any _ _ _ _ HA.out.1 HA.out.2).mono ?_
    rintro e w1 ⟨v1, f1, rfl, hat1, hf1, hb1⟩
    obtain ⟨p0, p1, p2, pn, pa, pc, rfl⟩ := hat1.agg
    have bM := (hb1.block (w.heap.size + 1 + 1) (by omega)).trans bZ
    have z0 := (cell_of_block (o := 0) bM).trans (show _ = some (.int .i64 0) from rfl)
    have z1 := (cell_of_block (o := 1) bM).trans (show _ = some (.int .i64 0) from rfl)
    have z2 := (cell_of_block (o := 2) bM).trans (show _ = some (.int .i64 0) from rfl)
    have z3 := (cell_of_block (o := 3) bM).trans (show _ = some (.slice none 0 0) from rfl)
    have yz := fun o => frozen_of_block (o := o) bM
    have FIN := closeO (w := w) (wF := w1) (M := w.heap.size + 1 + 1) (lo := w.heap.size + 1 + 1 + 1) (b := true) HT.out.1 (fun c hc => ⟨f1, by rw [HT.out.2 c hc]; exact hat1, hf1.mono (by omega)⟩) (by omega) (by omega) (below_trans hb0 hb1)
    simp only [put4, Nat.zero_add] at FIN
    go_wp2_with fail
    exact bodyPost_ret (v := .tuple #[.agg #[.int .i64 p0, .int .i64 p1, .int .i64 p2, .slice pa pn pc], .bool true]) (by simp [results, Try.results34, go_sem, z0, z1, z2, z3]) rfl FIN
  have hr : cmpo (n + 1) (.mk 6 ga la ts) (.mk kb gb lb us) = some (Co.mk 6 ga la ts) := by simp [cmpo, cmpN]
  have HT := hid (show (cmpo (n + 1) (.mk 6 ga la ts) (.mk kb gb lb us)).isSome = true ∧ ∀ c, cmpo (n + 1) (.mk 6 ga la ts) (.mk kb gb lb us) = some c → c = Co.mk 6 ga la ts from by rw [hr]; exact ⟨rfl, fun c h => (Option.some.inj h).symm⟩)
  have q0 : (kb == 5) = false := by first | (rw [beq_iff_eq]; omega) | (rw [beq_eq_false_iff_ne]; omega)
  have q1 : (kb == 1) = false := by first | (rw [beq_iff_eq]; omega) | (rw [beq_eq_false_iff_ne]; omega)
  clear hr h0 h1 h2
  go_enter Try.func34, Try.ntmps34
  go_wp2_with fail
  refine (l6Copy_any _ _ _ _ HA.out.1 HA.out.2).mono ?_
  rintro e w1 ⟨v1, f1, rfl, hat1, hf1, hb1⟩
  obtain ⟨p0, p1, p2, pn, pa, pc, rfl⟩ := hat1.agg
  have bM := (hb1.block (w.heap.size + 1 + 1) (by omega)).trans bZ
  have z0 := (cell_of_block (o := 0) bM).trans (show _ = some (.int .i64 0) from rfl)
  have z1 := (cell_of_block (o := 1) bM).trans (show _ = some (.int .i64 0) from rfl)
  have z2 := (cell_of_block (o := 2) bM).trans (show _ = some (.int .i64 0) from rfl)
  have z3 := (cell_of_block (o := 3) bM).trans (show _ = some (.slice none 0 0) from rfl)
  have yz := fun o => frozen_of_block (o := o) bM
  have FIN := closeO (w := w) (wF := w1) (M := w.heap.size + 1 + 1) (lo := w.heap.size + 1 + 1 + 1) (b := true) HT.out.1 (fun c hc => ⟨f1, by rw [HT.out.2 c hc]; exact hat1, hf1.mono (by omega)⟩) (by omega) (by omega) (below_trans hb0 hb1)
  simp only [put4, Nat.zero_add] at FIN
  go_wp2_with fail
  exact bodyPost_ret (v := .tuple #[.agg #[.int .i64 p0, .int .i64 p1, .int .i64 p2, .slice pa pn pc], .bool true]) (by simp [results, Try.results34, go_sem, z0, z1, z2, z3]) rfl FIN

set_option maxRecDepth 100000 in
set_option maxHeartbeats 1000000 in
theorem l6Compose_inj (n : Nat) (ga kb gb : Int) (la lb : Int) (ts us : List Co) (va vb : Value) (fa fb : List Nat) (w : World) (h5 : kb ≠ 5) (hna : (Co.mk 4 ga la ts).cnt ≤ 1048576) (hnb : (Co.mk kb gb lb us).cnt ≤ 1048576) (hata : (Co.mk 4 ga la ts).At w va fa) (hatb : (Co.mk kb gb lb us).At w vb fb) :
    Calls Try.prog 34 #[va, vb] w (MadeO w (cmpo (n + 1) (.mk 4 ga la ts) (.mk kb gb lb us))) := by
  have hata0 := hata
  have hatb0 := hatb
  obtain ⟨sa, rfl, hsa⟩ := Co.at_mk.1 hata
  obtain ⟨sb, rfl, hsb⟩ := Co.at_mk.1 hatb
  obtain ⟨aa, ca, rfl⟩ := hsa.shape
  obtain ⟨ab, cb, rfl⟩ := hsb.shape
  generalize hla : ts.length = na at *
  generalize hlb : us.length = nb at *
  have hb0 : Below w.heap.size w (((w.alloc (Obj.cells #[.int .i64 4, .int .i64 ga, .int .i64 la, .slice aa na ca] 44)).alloc (Obj.cells #[.int .i64 kb, .int .i64 gb, .int .i64 lb, .slice ab nb cb] 44)).alloc (Obj.cells #[.int .i64 0, .int .i64 0, .int .i64 0, .slice none 0 0] 44)) := (((Below.refl _ _).alloc (Nat.le_refl _) _).alloc (by simp) _).alloc (by simp; omega) _
  have hs0 : ((((w.alloc (Obj.cells #[.int .i64 4, .int .i64 ga, .int .i64 la, .slice aa na ca] 44)).alloc (Obj.cells #[.int .i64 kb, .int .i64 gb, .int .i64 lb, .slice ab nb cb] 44)).alloc (Obj.cells #[.int .i64 0, .int .i64 0, .int .i64 0, .slice none 0 0] 44))).heap.size = w.heap.size + 1 + 1 + 1 := by simp
  obtain ⟨_, _, bZ⟩ := three3 (Below.refl ((((w.alloc (Obj.cells #[.int .i64 4, .int .i64 ga, .int .i64 la, .slice aa na ca] 44)).alloc (Obj.cells #[.int .i64 kb, .int .i64 gb, .int .i64 lb, .slice ab nb cb] 44)).alloc (Obj.cells #[.int .i64 0, .int .i64 0, .int .i64 0, .slice none 0 0] 44))).heap.size (((w.alloc (Obj.cells #[.int .i64 4, .int .i64 ga, .int .i64 la, .slice aa na ca] 44)).alloc (Obj.cells #[.int .i64 kb, .int .i64 gb, .int .i64 lb, .slice ab nb cb] 44)).alloc (Obj.cells #[.int .i64 0, .int .i64 0, .int .i64 0, .slice none 0 0] 44)))
  have HA := hid (And.intro (hata0.below hb0) hna)
  have HB := hid (And.intro (hatb0.below hb0) hnb)
  clear hata hatb hata0 hatb0 hsa hsb hla hlb hna hnb
  by_cases h0 : kb = 1 ∧ gb = 1
  case pos =>
    have hr : cmpo (n + 1) (.mk 4 ga la ts) (.mk kb gb lb us) = some (Co.mk 4 ga la ts) := by simp [cmpo, cmpN, h0]
    have HT := hid (show (cmpo (n + 1) (.mk 4 ga la ts) (.mk kb gb lb us)).isSome = true ∧ ∀ c, cmpo (n + 1) (.mk 4 ga la ts) (.mk kb gb lb us) = some c → c = Co.mk 4 ga la ts from by rw [hr]; exact ⟨rfl, fun c h => (Option.some.inj h).symm⟩)
    have q0 : (kb == 5) = false := by first | (rw [beq_iff_eq]; omega) | (rw [beq_eq_false_iff_ne]; omega)
    have q1 : (kb == 1) = true := by first | (rw [beq_iff_eq]; omega) | (rw [beq_eq_false_iff_ne]; omega)
    have q2 : (gb == 1) = true := by first | (rw [beq_iff_eq]; omega) | (rw [beq_eq_false_iff_ne]; omega)
    clear hr h0
    go_enter Try.func34, Try.ntmps34
    go_wp2_with fail
    refine (l6Copy_any _ _ _ _ HA.out.1 HA.out.2).mono ?_
    rintro e w1 ⟨v1, f1, rfl, hat1, hf1, hb1⟩
    obtain ⟨p0, p1, p2, pn, pa, pc, rfl⟩ := hat1.agg
    have bM := (hb1.block (w.heap.size + 1 + 1) (by omega)).trans bZ
    have z0 := (cell_of_block (o := 0) bM).trans (show _ = some (.int .i64 0) from rfl)
    have z1 := (cell_of_block (o := 1) bM).trans (show _ = some (.int .i64 0) from rfl)
    have z2 := (cell_of_block (o := 2) bM).trans (show _ = some (.int .i64 0) from rfl)
    have z3 := (cell_of_block (o := 3) bM).trans (show _ = some (.slice none 0 0) from rfl)
    have yz := fun o => frozen_of_block (o := o) bM
    have FIN := closeO (w := w) (wF := w1) (M := w.heap.size + 1 + 1) (lo := w.heap.size + 1 + 1 + 1) (b := true) HT.out.1 (fun c hc => ⟨f1, by rw [HT.out.2 c hc]; exact hat1, hf1.mono (by omega)⟩) (by omega) (by omega) (below_trans hb0 hb1)
    simp only [put4, Nat.zero_add] at FIN
    go_wp2_with fail
    exact bodyPost_ret (v := .tuple #[.agg #[.int .i64 p0, .int .i64 p1, .int .i64 p2, .slice pa pn pc], .bool true]) (by simp [results, Try.results34, go_sem, z0, z1, z2, z3]) rfl FIN
  by_cases h1 : kb = 1
  case pos =>
    have hr : cmpo (n + 1) (.mk 4 ga la ts) (.mk kb gb lb us) = none := by simp [cmpo, cmpN, h1, show ¬ gb = 1 by omega]
    have HT := hid (show (cmpo (n + 1) (.mk 4 ga la ts) (.mk kb gb lb us)).isSome = false ∧ ∀ c, cmpo (n + 1) (.mk 4 ga la ts) (.mk kb gb lb us) = some c → c = Co.mk 4 ga la ts from by rw [hr]; exact ⟨rfl, fun c h => by cases h⟩)
    have q0 : (kb == 5) = false := by first | (rw [beq_iff_eq]; omega) | (rw [beq_eq_false_iff_ne]; omega)
    have q1 : (kb == 1) = true := by first | (rw [beq_iff_eq]; omega) | (rw [beq_eq_false_iff_ne]; omega)
    have q2 : (gb == 1) = false := by first | (rw [beq_iff_eq]; omega) | (rw [beq_eq_false_iff_ne]; omega)
    clear hr h0 h1
    go_enter Try.func34, Try.ntmps34
    go_wp2_with fail
    refine (l6Copy_any _ _ _ _ HA.out.1 HA.out.2).mono ?_
    rintro e w1 ⟨v1, f1, rfl, hat1, hf1, hb1⟩
    obtain ⟨p0, p1, p2, pn, pa, pc, rfl⟩ := hat1.agg
    have bM := (hb1.block (w.heap.size + 1 + 1) (by omega)).trans bZ
    have z0 := (cell_of_block (o := 0) bM).trans (show _ = some (.int .i64 0) from rfl)
    have z1 := (cell_of_block (o := 1) bM).trans (show _ = some (.int .i64 0) from rfl)
    have z2 := (cell_of_block (o := 2) bM).trans (show _ = some (.int .i64 0) from rfl)
    have z3 := (cell_of_block (o := 3) bM).trans (show _ = some (.slice none 0 0) from rfl)
    have yz := fun o => frozen_of_block (o := o) bM
    have FIN := closeO (w := w) (wF := w1) (M := w.heap.size + 1 + 1) (lo := w.heap.size + 1 + 1 + 1) (b := false) HT.out.1 (fun c hc => ⟨f1, by rw [HT.out.2 c hc]; exact hat1, hf1.mono (by omega)⟩) (by omega) (by omega) (below_trans hb0 hb1)
    simp only [put4, Nat.zero_add] at FIN
    go_wp2_with fail
    exact bodyPost_ret (v := .tuple #[.agg #[.int .i64 p0, .int .i64 p1, .int .i64 p2, .slice pa pn pc], .bool false]) (by simp [results, Try.results34, go_sem, z0, z1, z2, z3]) rfl FIN
  have hr : cmpo (n + 1) (.mk 4 ga la ts) (.mk kb gb lb us) = none := by simp [cmpo, cmpN, h1, h5]
  have HT := hid (show (cmpo (n + 1) (.mk 4 ga la ts) (.mk kb gb lb us)).isSome = false ∧ ∀ c, cmpo (n + 1) (.mk 4 ga la ts) (.mk kb gb lb us) = some c → c = Co.mk 4 ga la ts from by rw [hr]; exact ⟨rfl, fun c h => by cases h⟩)
  have q0 : (kb == 5) = false := by first | (rw [beq_iff_eq]; omega) | (rw [beq_eq_false_iff_ne]; omega)
  have q1 : (kb == 1) = false := by first | (rw [beq_iff_eq]; omega) | (rw [beq_eq_false_iff_ne]; omega)
  clear hr h0 h1
  go_enter Try.func34, Try.ntmps34
  go_wp2_with fail
  refine (l6Copy_any _ _ _ _ HA.out.1 HA.out.2).mono ?_
  rintro e w1 ⟨v1, f1, rfl, hat1, hf1, hb1⟩
  obtain ⟨p0, p1, p2, pn, pa, pc, rfl⟩ := hat1.agg
  have bM := (hb1.block (w.heap.size + 1 + 1) (by omega)).trans bZ
  have z0 := (cell_of_block (o := 0) bM).trans (show _ = some (.int .i64 0) from rfl)
  have z1 := (cell_of_block (o := 1) bM).trans (show _ = some (.int .i64 0) from rfl)
  have z2 := (cell_of_block (o := 2) bM).trans (show _ = some (.int .i64 0) from rfl)
  have z3 := (cell_of_block (o := 3) bM).trans (show _ = some (.slice none 0 0) from rfl)
  have yz := fun o => frozen_of_block (o := o) bM
  have FIN := closeO (w := w) (wF := w1) (M := w.heap.size + 1 + 1) (lo := w.heap.size + 1 + 1 + 1) (b := false) HT.out.1 (fun c hc => ⟨f1, by rw [HT.out.2 c hc]; exact hat1, hf1.mono (by omega)⟩) (by omega) (by omega) (below_trans hb0 hb1)
  simp only [put4, Nat.zero_add] at FIN
  go_wp2_with fail
  exact bodyPost_ret (v := .tuple #[.agg #[.int .i64 p0, .int .i64 p1, .int .i64 p2, .slice pa pn pc], .bool false]) (by simp [results, Try.results34, go_sem, z0, z1, z2, z3]) rfl FIN

end Go.Proofs.Ytgekfnodmgkdaaa

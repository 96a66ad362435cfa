/- The specification's l6Compose, off l6Two. -/
import Derived.Test.YtgekfnodmgkdaaaCmC
import Derived.Test.YtgekfnodmgkdaaaCmD
import Derived.Test.YtgekfnodmgkdaaaCmE
namespace Go.Proofs.Ytgekfnodmgkdaaa
open Go.RowKit

theorem shpK_small : ∀ {d : Nat} {t : Co}, shpK d t = true → t.cnt + 2 ≤ 2 ^ (d + 1)
  | 0, _, h => by simp [shpK] at h
  | d + 1, .mk k g l ts, h => by
    obtain ⟨hn, hs⟩ := shpK_node h
    have hp : 0 < 2 ^ d := Nat.pow_pos (by omega)
    have h0 : ts = [] → (Co.mk k g l ts).cnt + 2 ≤ 2 ^ (d + 1 + 1) := by
      rintro rfl
      simp only [Co.cnt, ccntL, List.length_nil, Nat.pow_succ]
      omega
    have h1 : ∀ a, ts = [a] → (Co.mk k g l ts).cnt + 2 ≤ 2 ^ (d + 1 + 1) := by
      rintro a rfl
      have := shpK_small (hs a (by simp))
      simp only [Co.cnt, ccntL, List.length_cons, List.length_nil, Nat.pow_succ] at *
      omega
    have h2 : ∀ a b, ts = [a, b] → (Co.mk k g l ts).cnt + 2 ≤ 2 ^ (d + 1 + 1) := by
      rintro a b rfl
      have := shpK_small (hs a (by simp))
      have := shpK_small (hs b (by simp))
      simp only [Co.cnt, ccntL, List.length_cons, List.length_nil, Nat.pow_succ] at *
      omega
    rcases nodeC_cases hn with ⟨_, e, _⟩ | ⟨_, _, _, a, b, e⟩ | ⟨_, _, _, a, b, e⟩ | ⟨_, _, _, a, e, _⟩ | ⟨_, _, _, a, e, _⟩ | ⟨_, e, _⟩
    · exact h0 e
    · exact h2 a b e
    · exact h2 a b e
    · exact h1 a e
    · exact h1 a e
    · exact h0 e

theorem shpK_cnt20 {d : Nat} {t : Co} (h : shpK d t = true) (hd : d ≤ 9) : t.cnt ≤ 1048576 := by
  have h1 := shpK_small h
  have h2 : 2 ^ (d + 1) ≤ 2 ^ 10 := Nat.pow_le_pow_right (by omega) (by omega)
  omega

set_option maxRecDepth 100000 in
set_option maxHeartbeats 2000000 in
theorem l6Compose_plain (n : Nat) (ih : TwoC n) (a b : Co) (d d' : Nat) (va vb : Value) (fa fb : List Nat) (w : World) (hd : d + d' ≤ n) (hd1 : d ≤ 9) (hd2 : d' ≤ 9) (hsa : shpK d a = true) (hsb : shpK d' b = true) (hua : notUnk a) (hub : notInj b) (hata : a.At w va fa) (hatb : b.At w vb fb) :
    Calls Try.prog 34 #[va, vb] w (MadeO w (cmpo n a b)) := by
  have hata0 := hata
  have hatb0 := hatb
  obtain ⟨ka, ga, la, ts, rfl⟩ := a.shape
  obtain ⟨kb, gb, lb, us, rfl⟩ := b.shape
  obtain ⟨h4, h5, h6, h1⟩ := id hua
  obtain ⟨g4, g6⟩ := id hub
  have q4 : (ka == 4) = false := by rw [beq_eq_false_iff_ne]; exact h4
  have q5 : (ka == 5) = false := by rw [beq_eq_false_iff_ne]; exact h5
  have q6 : (ka == 6) = false := by rw [beq_eq_false_iff_ne]; exact h6
  have p4 : (kb == 4) = false := by rw [beq_eq_false_iff_ne]; exact g4
  have p6 : (kb == 6) = false := by rw [beq_eq_false_iff_ne]; exact g6
  obtain ⟨sa, rfl, hsl⟩ := Co.at_mk.1 hata
  obtain ⟨sb, rfl, hsr⟩ := Co.at_mk.1 hatb
  obtain ⟨aa, ca, rfl⟩ := hsl.shape
  obtain ⟨ab, cb, rfl⟩ := hsr.shape
  generalize hla : ts.length = na at *
  generalize hlb : us.length = nb at *
  have hb0 : Below w.heap.size w (((w.alloc (Obj.cells #[.int .i64 ka, .int .i64 ga, .int .i64 la, .slice aa na ca] 44)).alloc (Obj.cells #[.int .i64 kb, .int .i64 gb, .int .i64 lb, .slice ab nb cb] 44)).alloc (Obj.cells #[.int .i64 0, .int .i64 0, .int .i64 0, .slice none 0 0] 44)) := (((Below.refl _ _).alloc (Nat.le_refl _) _).alloc (by simp) _).alloc (by simp; omega) _
  have hs0 : ((((w.alloc (Obj.cells #[.int .i64 ka, .int .i64 ga, .int .i64 la, .slice aa na ca] 44)).alloc (Obj.cells #[.int .i64 kb, .int .i64 gb, .int .i64 lb, .slice ab nb cb] 44)).alloc (Obj.cells #[.int .i64 0, .int .i64 0, .int .i64 0, .slice none 0 0] 44))).heap.size = w.heap.size + 1 + 1 + 1 := by simp
  obtain ⟨_, _, bZ⟩ := three3 (Below.refl ((((w.alloc (Obj.cells #[.int .i64 ka, .int .i64 ga, .int .i64 la, .slice aa na ca] 44)).alloc (Obj.cells #[.int .i64 kb, .int .i64 gb, .int .i64 lb, .slice ab nb cb] 44)).alloc (Obj.cells #[.int .i64 0, .int .i64 0, .int .i64 0, .slice none 0 0] 44))).heap.size (((w.alloc (Obj.cells #[.int .i64 ka, .int .i64 ga, .int .i64 la, .slice aa na ca] 44)).alloc (Obj.cells #[.int .i64 kb, .int .i64 gb, .int .i64 lb, .slice ab nb cb] 44)).alloc (Obj.cells #[.int .i64 0, .int .i64 0, .int .i64 0, .slice none 0 0] 44)))
  have HM := hid (fun (w' : World) (h : Below ((((w.alloc (Obj.cells #[.int .i64 ka, .int .i64 ga, .int .i64 la, .slice aa na ca] 44)).alloc (Obj.cells #[.int .i64 kb, .int .i64 gb, .int .i64 lb, .slice ab nb cb] 44)).alloc (Obj.cells #[.int .i64 0, .int .i64 0, .int .i64 0, .slice none 0 0] 44))).heap.size (((w.alloc (Obj.cells #[.int .i64 ka, .int .i64 ga, .int .i64 la, .slice aa na ca] 44)).alloc (Obj.cells #[.int .i64 kb, .int .i64 gb, .int .i64 lb, .slice ab nb cb] 44)).alloc (Obj.cells #[.int .i64 0, .int .i64 0, .int .i64 0, .slice none 0 0] 44)) w') => (h.block (w.heap.size + 1 + 1) (by omega)).trans bZ)
  have HB := hid hb0
  have HZ0 := hid hs0
  have H := hid (tw_from ih (Below.refl ((((w.alloc (Obj.cells #[.int .i64 ka, .int .i64 ga, .int .i64 la, .slice aa na ca] 44)).alloc (Obj.cells #[.int .i64 kb, .int .i64 gb, .int .i64 lb, .slice ab nb cb] 44)).alloc (Obj.cells #[.int .i64 0, .int .i64 0, .int .i64 0, .slice none 0 0] 44))).heap.size (((w.alloc (Obj.cells #[.int .i64 ka, .int .i64 ga, .int .i64 la, .slice aa na ca] 44)).alloc (Obj.cells #[.int .i64 kb, .int .i64 gb, .int .i64 lb, .slice ab nb cb] 44)).alloc (Obj.cells #[.int .i64 0, .int .i64 0, .int .i64 0, .slice none 0 0] 44))) hd hd1 hd2 hsa hsb hua hub (hata0.below hb0) (hatb0.below hb0))
  generalize cmpo n (.mk ka ga la ts) (.mk kb gb lb us) = o at *
  clear ih hb0 hs0 bZ hata hatb hata0 hatb0 hsl hsr hsa hsb hd hla hlb hua hub h4 h5 h6 g4 g6
  by_cases hk : ka = 1
  case pos =>
    have q1 : (ka == 1) = true := by simpa using hk
    have q2 : (ga == 1) = false := by rw [beq_eq_false_iff_ne]; exact fun h => h1 ⟨hk, h⟩
    clear hk h1
    by_cases k5 : kb = 5
    case pos =>
      have r5 : (kb == 5) = true := by simpa using k5
      clear k5
      go_enter Try.func34, Try.ntmps34
      go_wp2_with fail
      refine H.out.mono ?_
      rintro e w1 ⟨⟨p0, p1, p2, pa, pn, pc, rfl, hb1, hO⟩, _⟩
      have bM := HM.out _ hb1
      have z0 := (cell_of_block (o := 0) bM).trans (show _ = some (.int .i64 0) from rfl)
      have z1 := (cell_of_block (o := 1) bM).trans (show _ = some (.int .i64 0) from rfl)
      have z2 := (cell_of_block (o := 2) bM).trans (show _ = some (.int .i64 0) from rfl)
      have z3 := (cell_of_block (o := 3) bM).trans (show _ = some (.slice none 0 0) from rfl)
      have yz := fun o => frozen_of_block (o := o) bM
      have FIN := closeO (w := w) (wF := w1) (M := w.heap.size + 1 + 1) (lo := w.heap.size + 1 + 1 + 1) (o := o) (b := o.isSome) rfl (fun c hc => by obtain ⟨fp, u1, u2⟩ := hO c hc; exact ⟨fp, u1, u2.mono (by have := HZ0.out; omega)⟩) (by omega) (by omega) (below_trans HB.out hb1)
      generalize o.isSome = r at *
      simp only [put4, Nat.zero_add] at FIN
      go_wp2_with fail
      exact bodyPost_ret (v := .tuple #[.agg #[.int .i64 p0, .int .i64 p1, .int .i64 p2, .slice pa pn pc], .bool r]) (by simp [results, Try.results34, go_sem, z0, z1, z2, z3]) rfl FIN
    have r5 : (kb == 5) = false := by rw [beq_eq_false_iff_ne]; exact k5
    clear k5
    by_cases k1 : kb = 1
    case pos =>
      have r1 : (kb == 1) = true := by simpa using k1
      clear k1
      go_enter Try.func34, Try.ntmps34
      go_wp2_with fail
      refine H.out.mono ?_
      rintro e w1 ⟨⟨p0, p1, p2, pa, pn, pc, rfl, hb1, hO⟩, _⟩
      have bM := HM.out _ hb1
      have z0 := (cell_of_block (o := 0) bM).trans (show _ = some (.int .i64 0) from rfl)
      have z1 := (cell_of_block (o := 1) bM).trans (show _ = some (.int .i64 0) from rfl)
      have z2 := (cell_of_block (o := 2) bM).trans (show _ = some (.int .i64 0) from rfl)
      have z3 := (cell_of_block (o := 3) bM).trans (show _ = some (.slice none 0 0) from rfl)
      have yz := fun o => frozen_of_block (o := o) bM
      have FIN := closeO (w := w) (wF := w1) (M := w.heap.size + 1 + 1) (lo := w.heap.size + 1 + 1 + 1) (o := o) (b := o.isSome) rfl (fun c hc => by obtain ⟨fp, u1, u2⟩ := hO c hc; exact ⟨fp, u1, u2.mono (by have := HZ0.out; omega)⟩) (by omega) (by omega) (below_trans HB.out hb1)
      generalize o.isSome = r at *
      simp only [put4, Nat.zero_add] at FIN
      go_wp2_with fail
      exact bodyPost_ret (v := .tuple #[.agg #[.int .i64 p0, .int .i64 p1, .int .i64 p2, .slice pa pn pc], .bool r]) (by simp [results, Try.results34, go_sem, z0, z1, z2, z3]) rfl FIN
    have r1 : (kb == 1) = false := by rw [beq_eq_false_iff_ne]; exact k1
    clear k1
    go_enter Try.func34, Try.ntmps34
    go_wp2_with fail
    refine H.out.mono ?_
    rintro e w1 ⟨⟨p0, p1, p2, pa, pn, pc, rfl, hb1, hO⟩, _⟩
    have bM := HM.out _ hb1
    have z0 := (cell_of_block (o := 0) bM).trans (show _ = some (.int .i64 0) from rfl)
    have z1 := (cell_of_block (o := 1) bM).trans (show _ = some (.int .i64 0) from rfl)
    have z2 := (cell_of_block (o := 2) bM).trans (show _ = some (.int .i64 0) from rfl)
    have z3 := (cell_of_block (o := 3) bM).trans (show _ = some (.slice none 0 0) from rfl)
    have yz := fun o => frozen_of_block (o := o) bM
    have FIN := closeO (w := w) (wF := w1) (M := w.heap.size + 1 + 1) (lo := w.heap.size + 1 + 1 + 1) (o := o) (b := o.isSome) rfl (fun c hc => by obtain ⟨fp, u1, u2⟩ := hO c hc; exact ⟨fp, u1, u2.mono (by have := HZ0.out; omega)⟩) (by omega) (by omega) (below_trans HB.out hb1)
    generalize o.isSome = r at *
    simp only [put4, Nat.zero_add] at FIN
    go_wp2_with fail
    exact bodyPost_ret (v := .tuple #[.agg #[.int .i64 p0, .int .i64 p1, .int .i64 p2, .slice pa pn pc], .bool r]) (by simp [results, Try.results34, go_sem, z0, z1, z2, z3]) rfl FIN
  have q1 : (ka == 1) = false := by rw [beq_eq_false_iff_ne]; exact hk
  clear hk h1
  by_cases k5 : kb = 5
  case pos =>
    have r5 : (kb == 5) = true := by simpa using k5
    clear k5
    go_enter Try.func34, Try.ntmps34
    go_wp2_with fail
    refine H.out.mono ?_
    rintro e w1 ⟨⟨p0, p1, p2, pa, pn, pc, rfl, hb1, hO⟩, _⟩
    have bM := HM.out _ hb1
    have z0 := (cell_of_block (o := 0) bM).trans (show _ = some (.int .i64 0) from rfl)
    have z1 := (cell_of_block (o := 1) bM).trans (show _ = some (.int .i64 0) from rfl)
    have z2 := (cell_of_block (o := 2) bM).trans (show _ = some (.int .i64 0) from rfl)
    have z3 := (cell_of_block (o := 3) bM).trans (show _ = some (.slice none 0 0) from rfl)
    have yz := fun o => frozen_of_block (o := o) bM
    have FIN := closeO (w := w) (wF := w1) (M := w.heap.size + 1 + 1) (lo := w.heap.size + 1 + 1 + 1) (o := o) (b := o.isSome) rfl (fun c hc => by obtain ⟨fp, u1, u2⟩ := hO c hc; exact ⟨fp, u1, u2.mono (by have := HZ0.out; omega)⟩) (by omega) (by omega) (below_trans HB.out hb1)
    generalize o.isSome = r at *
    simp only [put4, Nat.zero_add] at FIN
    go_wp2_with fail
    exact bodyPost_ret (v := .tuple #[.agg #[.int .i64 p0, .int .i64 p1, .int .i64 p2, .slice pa pn pc], .bool r]) (by simp [results, Try.results34, go_sem, z0, z1, z2, z3]) rfl FIN
  have r5 : (kb == 5) = false := by rw [beq_eq_false_iff_ne]; exact k5
  clear k5
  by_cases k1 : kb = 1
  case pos =>
    have r1 : (kb == 1) = true := by simpa using k1
    clear k1
    go_enter Try.func34, Try.ntmps34
    go_wp2_with fail
    refine H.out.mono ?_
    rintro e w1 ⟨⟨p0, p1, p2, pa, pn, pc, rfl, hb1, hO⟩, _⟩
    have bM := HM.out _ hb1
    have z0 := (cell_of_block (o := 0) bM).trans (show _ = some (.int .i64 0) from rfl)
    have z1 := (cell_of_block (o := 1) bM).trans (show _ = some (.int .i64 0) from rfl)
    have z2 := (cell_of_block (o := 2) bM).trans (show _ = some (.int .i64 0) from rfl)
    have z3 := (cell_of_block (o := 3) bM).trans (show _ = some (.slice none 0 0) from rfl)
    have yz := fun o => frozen_of_block (o := o) bM
    have FIN := closeO (w := w) (wF := w1) (M := w.heap.size + 1 + 1) (lo := w.heap.size + 1 + 1 + 1) (o := o) (b := o.isSome) rfl (fun c hc => by obtain ⟨fp, u1, u2⟩ := hO c hc; exact ⟨fp, u1, u2.mono (by have := HZ0.out; omega)⟩) (by omega) (by omega) (below_trans HB.out hb1)
    generalize o.isSome = r at *
    simp only [put4, Nat.zero_add] at FIN
    go_wp2_with fail
    exact bodyPost_ret (v := .tuple #[.agg #[.int .i64 p0, .int .i64 p1, .int .i64 p2, .slice pa pn pc], .bool r]) (by simp [results, Try.results34, go_sem, z0, z1, z2, z3]) rfl FIN
  have r1 : (kb == 1) = false := by rw [beq_eq_false_iff_ne]; exact k1
  clear k1
  go_enter Try.func34, Try.ntmps34
  go_wp2_with fail
  refine H.out.mono ?_
  rintro e w1 ⟨⟨p0, p1, p2, pa, pn, pc, rfl, hb1, hO⟩, _⟩
  have bM := HM.out _ hb1
  have z0 := (cell_of_block (o := 0) bM).trans (show _ = some (.int .i64 0) from rfl)
  have z1 := (cell_of_block (o := 1) bM).trans (show _ = some (.int .i64 0) from rfl)
  have z2 := (cell_of_block (o := 2) bM).trans (show _ = some (.int .i64 0) from rfl)
  have z3 := (cell_of_block (o := 3) bM).trans (show _ = some (.slice none 0 0) from rfl)
  have yz := fun o => frozen_of_block (o := o) bM
  have FIN := closeO (w := w) (wF := w1) (M := w.heap.size + 1 + 1) (lo := w.heap.size + 1 + 1 + 1) (o := o) (b := o.isSome) rfl (fun c hc => by obtain ⟨fp, u1, u2⟩ := hO c hc; exact ⟨fp, u1, u2.mono (by have := HZ0.out; omega)⟩) (by omega) (by omega) (below_trans HB.out hb1)
  generalize o.isSome = r at *
  simp only [put4, Nat.zero_add] at FIN
  go_wp2_with fail
  exact bodyPost_ret (v := .tuple #[.agg #[.int .i64 p0, .int .i64 p1, .int .i64 p2, .slice pa pn pc], .bool r]) (by simp [results, Try.results34, go_sem, z0, z1, z2, z3]) rfl FIN

theorem l6Compose_succ (n : Nat) (ihC : CmC n) (ihT : TwoC n) (ihT1 : TwoC (n + 1)) : CmC (n + 1) := by
  intro a b d d' va vb fa fb w hd h9 h9' hsa hsb hata hatb
  have ca := shpK_cnt20 hsa h9
  have cb := shpK_cnt20 hsb h9'
  have htw := tagWf_shp hsa
  cases d with
  | zero => simp [shpK] at hsa
  | succ d =>
  cases d' with
  | zero => simp [shpK] at hsb
  | succ d' =>
  obtain ⟨ka, ga, la, ts, rfl⟩ := a.shape
  obtain ⟨kb, gb, lb, us, rfl⟩ := b.shape
  obtain ⟨hna, hka⟩ := shpK_node hsa
  obtain ⟨hnb, hkb⟩ := shpK_node hsb
  by_cases hu : ka = 1 ∧ ga = 1
  · obtain ⟨rfl, rfl⟩ := hu
    exact l6Compose_unk n kb gb la lb ts us va vb fa fb w ca cb hata hatb
  rcases nodeC_cases hna with ⟨h1, _⟩ | ⟨h1, _⟩ | ⟨h1, _⟩ | ⟨rfl, rfl, rfl, x, rfl, _⟩ | ⟨rfl, rfl, _, x, rfl, _⟩ | ⟨rfl, rfl, _⟩
  case inr.inr.inr.inl =>
    by_cases h5 : kb = 5
    · subst h5
      rcases nodeC_cases hnb with ⟨h, _⟩ | ⟨h, _⟩ | ⟨h, _⟩ | ⟨h, _⟩ | ⟨_, rfl, _, y, rfl, _⟩ | ⟨h, _⟩
      case inr.inr.inr.inr.inl =>
        by_cases hq : tagC x = tagC y
        · exact l6Compose_meet n ihC 0 0 0 lb x y d d' va vb fa fb w (by omega) (by omega) (by omega) (hka x (by simp)) (hkb y (by simp)) hq hata hatb
        · exact l6Compose_clash n ihC 0 0 0 lb x y d d' va vb fa fb w (by omega) (by omega) (by omega) (hka x (by simp)) (hkb y (by simp)) hq hata hatb
      all_goals omega
    · exact l6Compose_inj n 0 kb gb 0 lb [x] us va vb fa fb w h5 ca cb hata hatb
  case inr.inr.inr.inr.inl => exact l6Compose_prj n ihC 0 la x (.mk kb gb lb us) d (d' + 1) va vb fa fb w (by omega) (by omega) (by omega) (hka x (by simp)) hsb hata hatb
  case inr.inr.inr.inr.inr => exact l6Compose_fail n ga kb gb la lb [] us va vb fa fb w ca cb hata hatb
  all_goals
    have hua : notUnk (.mk ka ga la ts) := ⟨by omega, by omega, by omega, hu⟩
    by_cases k6 : kb = 6
    · subst k6
      exact l6Compose_bfail n _ ka ga gb la lb ts us va vb fa fb w (by omega) (by omega) (by omega) hu htw cb hata hatb
    by_cases k4 : kb = 4
    · subst k4
      rcases nodeC_cases hnb with ⟨h, _⟩ | ⟨h, _⟩ | ⟨h, _⟩ | ⟨_, rfl, rfl, y, rfl, hp⟩ | ⟨h, _⟩ | ⟨h, _⟩
      case inr.inr.inr.inl =>
        refine l6Compose_binj n ihT 0 0 (.mk ka ga la ts) y (d + 1) d' va vb fa fb w (by omega) (by omega) (by omega) hsa (hkb y (by simp)) hua ?_ hata hatb
        obtain ⟨ky, gy, ly, ty, rfl⟩ := y.shape
        simp only [plainC] at hp
        simp at hp
        exact ⟨by omega, by omega⟩
      all_goals omega
    · exact l6Compose_plain (n + 1) ihT1 (.mk ka ga la ts) (.mk kb gb lb us) (d + 1) (d' + 1) va vb fa fb w hd h9 h9' hsa hsb hua ⟨k4, k6⟩ hata hatb
end Go.Proofs.Ytgekfnodmgkdaaa

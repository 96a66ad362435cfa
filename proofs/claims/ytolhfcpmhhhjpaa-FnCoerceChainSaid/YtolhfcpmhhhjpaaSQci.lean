/- ComposeCoercions, of the program. -/
import Derived.Test.YtolhfcpmhhhjpaaSCid
import Derived.Test.YtolhfcpmhhhjpaaSG3
import Derived.Test.YtolhfcpmhhhjpaaSCw6
namespace Go.Proofs.Ytolhfcpmhhhjpaa
open Go.RowKit

theorem shpK_smallQ : ∀ {d : Nat} {t : Co}, shpK d t = true → t.cnt + 2 ≤ 2 ^ (d + 1)
  | 0, _, h => by simp [shpK] at h
  | d + 1, .mk k g l ts, h => by
    obtain ⟨hn, hs⟩ := shpK_node h
    have hp : 0 < 2 ^ d := Nat.pow_pos (by omega)
    have h0 : ts = [] → (Co.mk k g l ts).cnt + 2 ≤ 2 ^ (d + 1 + 1) := by
      rintro rfl
      simp only [Co.cnt, ccntL, List.length_nil, Nat.pow_succ]
      omega
    have h1 : ∀ a, ts = [a] → (Co.mk k g l ts).cnt + 2 ≤ 2 ^ (d + 1 + 1) := by
      rintro a rfl
      have := shpK_smallQ (hs a (by simp))
      simp only [Co.cnt, ccntL, List.length_cons, List.length_nil, Nat.pow_succ] at *
      omega
    have h2 : ∀ a b, ts = [a, b] → (Co.mk k g l ts).cnt + 2 ≤ 2 ^ (d + 1 + 1) := by
      rintro a b rfl
      have := shpK_smallQ (hs a (by simp))
      have := shpK_smallQ (hs b (by simp))
      simp only [Co.cnt, ccntL, List.length_cons, List.length_nil, Nat.pow_succ] at *
      omega
    rcases nodeC_cases hn with ⟨_, e, _⟩ | ⟨_, _, _, a, b, e⟩ | ⟨_, _, _, a, b, e⟩ | ⟨_, _, _, a, e, _⟩ | ⟨_, _, _, a, e, _⟩ | ⟨_, e, _⟩
    · exact h0 e
    · exact h2 a b e
    · exact h2 a b e
    · exact h1 a e
    · exact h1 a e
    · exact h0 e

theorem shpK_cnt20Q {d : Nat} {t : Co} (h : shpK d t = true) (hd : d ≤ 9) : t.cnt ≤ 1048576 := by
  have h1 := shpK_smallQ h
  have h2 : 2 ^ (d + 1) ≤ 2 ^ 10 := Nat.pow_le_pow_right (by omega) (by omega)
  omega


/-- What a call says that hands back a coercion of its own, and whether there is one. -/
def MadeCQ (w : World) (t : Co) (ok : Bool) (e : Ending) (w' : World) : Prop := ∃ v fp, e = .returned (.tuple #[v, .bool ok]) ∧ t.At w' v fp ∧ Fresh w.heap.size w' fp ∧ Below w.heap.size w w'

theorem MadeC.okQ {w w' : World} {t : Co} {v : Value} (h : MadeC w t (.returned v) w') (b : Bool) : MadeCQ w t b (.returned (.tuple #[v, .bool b])) w' := by
  obtain ⟨v', fp, e, h1, h2, h3⟩ := h
  cases e
  exact ⟨v, fp, rfl, h1, h2, h3⟩

def zCo : Co := .mk 0 0 0 []
def okO (o : Option Co) : Bool := match o with | some c => vldK c | none => false
/-- The document's ComposeCoercions. -/
def cmpOk (t u : Co) : Bool := vldK t && (vldK u && okO (cmpo 18 t u))
def cmpOf (t u : Co) : Co := if cmpOk t u then (cmpo 18 t u).getD zCo else zCo

theorem cmpOf_cnt (t u : Co) : (cmpOf t u).cnt ≤ 16777216 := by
  unfold cmpOf
  split
  · rename_i h
    simp only [cmpOk, Bool.and_eq_true] at h
    have h3 := h.2.2
    cases hc : cmpo 18 t u with
    | none => rw [hc] at h3; cases h3
    | some c =>
      rw [hc] at h3
      have := shpK_cnt20Q (d := 9) (t := c) h3 (by omega)
      simp only [Option.getD_some]
      omega
  · simp [zCo, Co.cnt, ccntL]

theorem zero_made (w w' : World) (h : Below w.heap.size w w') : MadeCQ w zCo false (.returned (.tuple #[.agg #[.int .i64 0, .int .i64 0, .int .i64 0, .slice none 0 0], .bool false])) w' :=
  ⟨_, [], rfl, Co.at_mk.2 ⟨.slice none 0 0, rfl, CSl.nilA⟩, Fresh.nil _ _, h⟩

theorem MadeCQ.conv {w w' : World} {t t' : Co} {ok ok' : Bool} {e : Ending} (h : MadeCQ w t ok e w') (h1 : t' = t) (h2 : ok' = ok) : MadeCQ w t' ok' e w' := by
  subst h1
  subst h2
  exact h

set_option maxHeartbeats 2000000 in
set_option maxRecDepth 100000 in
theorem implCompose (t u : Co) (v1 v2 : Value) (f1 f2 : List Nat) (w : World) (h1 : t.At w v1 f1) (h2 : u.At w v2 f2) :
    Calls Try.prog 23 #[v1, v2] w (MadeCQ w (cmpOf t u) (cmpOk t u)) := by
  obtain ⟨k, g, l, n, a, c, rfl⟩ := h1.agg
  obtain ⟨k', g', l', n', a', c', rfl⟩ := h2.agg
  have hb0 : Below w.heap.size w (((w.alloc (Obj.cells #[.int .i64 k, .int .i64 g, .int .i64 l, .slice a n c] 30)).alloc (Obj.cells #[.int .i64 k', .int .i64 g', .int .i64 l', .slice a' n' c'] 30)).alloc (Obj.cells #[.int .i64 0, .int .i64 0, .int .i64 0, .slice none 0 0] 30)) := (((Below.refl _ _).alloc (Nat.le_refl _) _).alloc (by simp) _).alloc (by simp; omega) _
  have hs0 : ((((w.alloc (Obj.cells #[.int .i64 k, .int .i64 g, .int .i64 l, .slice a n c] 30)).alloc (Obj.cells #[.int .i64 k', .int .i64 g', .int .i64 l', .slice a' n' c'] 30)).alloc (Obj.cells #[.int .i64 0, .int .i64 0, .int .i64 0, .slice none 0 0] 30))).heap.size = w.heap.size + 1 + 1 + 1 := by simp
  obtain ⟨bA, bB, bZ⟩ := three3 (Below.refl ((((w.alloc (Obj.cells #[.int .i64 k, .int .i64 g, .int .i64 l, .slice a n c] 30)).alloc (Obj.cells #[.int .i64 k', .int .i64 g', .int .i64 l', .slice a' n' c'] 30)).alloc (Obj.cells #[.int .i64 0, .int .i64 0, .int .i64 0, .slice none 0 0] 30))).heap.size (((w.alloc (Obj.cells #[.int .i64 k, .int .i64 g, .int .i64 l, .slice a n c] 30)).alloc (Obj.cells #[.int .i64 k', .int .i64 g', .int .i64 l', .slice a' n' c'] 30)).alloc (Obj.cells #[.int .i64 0, .int .i64 0, .int .i64 0, .slice none 0 0] 30)))
  have H1 := hid (h1.below hb0)
  have H2 := hid (h2.below hb0)
  have HB := hid hb0
  have HBZ := hid bZ
  have HS := hid (fun (w' : World) (h : Below ((((w.alloc (Obj.cells #[.int .i64 k, .int .i64 g, .int .i64 l, .slice a n c] 30)).alloc (Obj.cells #[.int .i64 k', .int .i64 g', .int .i64 l', .slice a' n' c'] 30)).alloc (Obj.cells #[.int .i64 0, .int .i64 0, .int .i64 0, .slice none 0 0] 30))).heap.size (((w.alloc (Obj.cells #[.int .i64 k, .int .i64 g, .int .i64 l, .slice a n c] 30)).alloc (Obj.cells #[.int .i64 k', .int .i64 g', .int .i64 l', .slice a' n' c'] 30)).alloc (Obj.cells #[.int .i64 0, .int .i64 0, .int .i64 0, .slice none 0 0] 30)) w') => And.intro ((h.block _ (by omega)).trans bA) ((h.block _ (by omega)).trans bB))
  clear h1 h2 hb0 bA bB bZ
  have HCV1 := hid (implCoercionValid_any t _ _ _ H1.out)
  have HCV2 := hid (fun (w' : World) (h : Below ((((w.alloc (Obj.cells #[.int .i64 k, .int .i64 g, .int .i64 l, .slice a n c] 30)).alloc (Obj.cells #[.int .i64 k', .int .i64 g', .int .i64 l', .slice a' n' c'] 30)).alloc (Obj.cells #[.int .i64 0, .int .i64 0, .int .i64 0, .slice none 0 0] 30))).heap.size (((w.alloc (Obj.cells #[.int .i64 k, .int .i64 g, .int .i64 l, .slice a n c] 30)).alloc (Obj.cells #[.int .i64 k', .int .i64 g', .int .i64 l', .slice a' n' c'] 30)).alloc (Obj.cells #[.int .i64 0, .int .i64 0, .int .i64 0, .slice none 0 0] 30)) w') => implCoercionValid_any u _ _ w' (H2.out.below h))
  cases hv1 : vldK t with
  | false =>
    have HN := hid (show cmpOk t u = false by simp [cmpOk, hv1])
    have HZ := hid (show cmpOf t u = zCo by simp [cmpOf, cmpOk, hv1])
    rw [hv1] at HCV1
    clear hv1
    go_enter Try.func23, Try.ntmps23
    go_wp2_with fail
    refine HCV1.out.mono ?_
    rintro e w1 ⟨rfl, hb1⟩
    have bM := (hb1.block (w.heap.size + 1 + 1) (by omega)).trans HBZ.out
    have z0 := (cell_of_block (o := 0) bM).trans (show _ = some (.int .i64 0) from rfl)
    have z1 := (cell_of_block (o := 1) bM).trans (show _ = some (.int .i64 0) from rfl)
    have z2 := (cell_of_block (o := 2) bM).trans (show _ = some (.int .i64 0) from rfl)
    have z3 := (cell_of_block (o := 3) bM).trans (show _ = some (.slice none 0 0) from rfl)
    have yz := fun o => frozen_of_block (o := o) bM
    have FIN := (zero_made w _ (put4_below (M := w.heap.size + 1 + 1) (below_trans HB.out hb1) (by omega) (.int .i64 0) (.int .i64 0) (.int .i64 0) (.slice none 0 0))).conv HZ.out HN.out
    simp only [put4, Nat.zero_add] at FIN
    go_wp2_with fail
    exact bodyPost_ret (v := .tuple #[.agg #[.int .i64 0, .int .i64 0, .int .i64 0, .slice none 0 0], .bool false]) (by simp [results, Try.results23, go_sem, z0, z1, z2, z3]) rfl FIN
  | true =>
  rw [hv1] at HCV1
  cases hv2 : vldK u with
  | false =>
    have HN := hid (show cmpOk t u = false by simp [cmpOk, hv2])
    have HZ := hid (show cmpOf t u = zCo by simp [cmpOf, cmpOk, hv2])
    rw [hv2] at HCV2
    clear hv1 hv2
    go_enter Try.func23, Try.ntmps23
    go_wp2_with fail
    refine HCV1.out.mono ?_
    rintro e w1 ⟨rfl, hb1⟩
    obtain ⟨hA, hB⟩ := HS.out _ hb1
    have y0 := (cell_of_block (o := 0) hB).trans (show _ = some (.int .i64 k') from rfl)
    have y1 := (cell_of_block (o := 1) hB).trans (show _ = some (.int .i64 g') from rfl)
    have y2 := (cell_of_block (o := 2) hB).trans (show _ = some (.int .i64 l') from rfl)
    have y3 := (cell_of_block (o := 3) hB).trans (show _ = some (.slice a' n' c') from rfl)
    go_wp2_with fail
    refine (HCV2.out _ hb1).mono ?_
    rintro e w2 ⟨rfl, hb2⟩
    have hB2 := below_trans hb1 hb2
    have bM := (hB2.block (w.heap.size + 1 + 1) (by omega)).trans HBZ.out
    have z0 := (cell_of_block (o := 0) bM).trans (show _ = some (.int .i64 0) from rfl)
    have z1 := (cell_of_block (o := 1) bM).trans (show _ = some (.int .i64 0) from rfl)
    have z2 := (cell_of_block (o := 2) bM).trans (show _ = some (.int .i64 0) from rfl)
    have z3 := (cell_of_block (o := 3) bM).trans (show _ = some (.slice none 0 0) from rfl)
    have yz := fun o => frozen_of_block (o := o) bM
    have FIN := (zero_made w _ (put4_below (M := w.heap.size + 1 + 1) (below_trans HB.out hB2) (by omega) (.int .i64 0) (.int .i64 0) (.int .i64 0) (.slice none 0 0))).conv HZ.out HN.out
    simp only [put4, Nat.zero_add] at FIN
    go_wp2_with fail
    exact bodyPost_ret (v := .tuple #[.agg #[.int .i64 0, .int .i64 0, .int .i64 0, .slice none 0 0], .bool false]) (by simp [results, Try.results23, go_sem, z0, z1, z2, z3]) rfl FIN
  | true =>
  rw [hv2] at HCV2
  have HC := hid (fun (w' : World) (h : Below ((((w.alloc (Obj.cells #[.int .i64 k, .int .i64 g, .int .i64 l, .slice a n c] 30)).alloc (Obj.cells #[.int .i64 k', .int .i64 g', .int .i64 l', .slice a' n' c'] 30)).alloc (Obj.cells #[.int .i64 0, .int .i64 0, .int .i64 0, .slice none 0 0] 30))).heap.size (((w.alloc (Obj.cells #[.int .i64 k, .int .i64 g, .int .i64 l, .slice a n c] 30)).alloc (Obj.cells #[.int .i64 k', .int .i64 g', .int .i64 l', .slice a' n' c'] 30)).alloc (Obj.cells #[.int .i64 0, .int .i64 0, .int .i64 0, .slice none 0 0] 30)) w') => (cpi_any 18 t u 9 9 _ _ f1 f2 w' (by omega) (by omega) (by omega) hv1 hv2 (H1.out.below h) (H2.out.below h)))
  have HO := hid (show cmpOk t u = okO (cmpo 18 t u) by simp [cmpOk, hv1, hv2])
  have HF := hid (show cmpOf t u = if okO (cmpo 18 t u) then (cmpo 18 t u).getD zCo else zCo by rw [cmpOf, HO.out])
  clear hv1 hv2
  generalize cmpo 18 t u = o at *
  go_enter Try.func23, Try.ntmps23
  go_wp2_with fail
  refine HCV1.out.mono ?_
  rintro e w1 ⟨rfl, hb1⟩
  obtain ⟨hA, hB⟩ := HS.out _ hb1
  have x0 := (cell_of_block (o := 0) hA).trans (show _ = some (.int .i64 k) from rfl)
  have x1 := (cell_of_block (o := 1) hA).trans (show _ = some (.int .i64 g) from rfl)
  have x2 := (cell_of_block (o := 2) hA).trans (show _ = some (.int .i64 l) from rfl)
  have x3 := (cell_of_block (o := 3) hA).trans (show _ = some (.slice a n c) from rfl)
  have y0 := (cell_of_block (o := 0) hB).trans (show _ = some (.int .i64 k') from rfl)
  have y1 := (cell_of_block (o := 1) hB).trans (show _ = some (.int .i64 g') from rfl)
  have y2 := (cell_of_block (o := 2) hB).trans (show _ = some (.int .i64 l') from rfl)
  have y3 := (cell_of_block (o := 3) hB).trans (show _ = some (.slice a' n' c') from rfl)
  go_wp2_with fail
  refine (HCV2.out _ hb1).mono ?_
  rintro e w2 ⟨rfl, hb2⟩
  have hB2 := below_trans hb1 hb2
  replace x0 := cell_keep x0 hb2
  replace x1 := cell_keep x1 hb2
  replace x2 := cell_keep x2 hb2
  replace x3 := cell_keep x3 hb2
  replace y0 := cell_keep y0 hb2
  replace y1 := cell_keep y1 hb2
  replace y2 := cell_keep y2 hb2
  replace y3 := cell_keep y3 hb2
  go_wp2_with fail
  refine (HC.out _ hB2).mono ?_
  rintro e w3 ⟨pk, pg, pl, pa, pn, pc, rfl, hb3, hL⟩
  have hB3 := below_trans hB2 hb3
  have hal : Below w3.heap.size w3 (w3.alloc (Obj.cells #[.int .i64 pk, .int .i64 pg, .int .i64 pl, .slice pa pn pc] 30)) := (Below.refl _ _).alloc (Nat.le_refl _) _
  have hB4 := below_trans hB3 hal
  have HB2S := hid (show w.heap.size + 1 + 1 < w2.heap.size by have := hB2.size; omega)
  have HB3S := hid (show w.heap.size + 1 + 1 < w3.heap.size by have := hB3.size; omega)
  clear x0 x1 x2 x3 y0 y1 y2 y3 hA hB hb1 hb2
  cases o with
  | none =>
    have HN := hid (show cmpOk t u = false from HO.out)
    have HZ := hid (show cmpOf t u = zCo from HF.out)
    simp only [Option.isSome_none]
    have bM := (hB4.block (w.heap.size + 1 + 1) (by omega)).trans HBZ.out
    have z0 := (cell_of_block (o := 0) bM).trans (show _ = some (.int .i64 0) from rfl)
    have z1 := (cell_of_block (o := 1) bM).trans (show _ = some (.int .i64 0) from rfl)
    have z2 := (cell_of_block (o := 2) bM).trans (show _ = some (.int .i64 0) from rfl)
    have z3 := (cell_of_block (o := 3) bM).trans (show _ = some (.slice none 0 0) from rfl)
    have yz := fun o => frozen_of_block (o := o) bM
    have FIN := (zero_made w _ (put4_below (M := w.heap.size + 1 + 1) (below_trans HB.out hB4) (by omega) (.int .i64 0) (.int .i64 0) (.int .i64 0) (.slice none 0 0))).conv HZ.out HN.out
    simp only [put4, Nat.zero_add] at FIN
    go_wp2_with fail
    exact bodyPost_ret (v := .tuple #[.agg #[.int .i64 0, .int .i64 0, .int .i64 0, .slice none 0 0], .bool false]) (by simp [results, Try.results23, go_sem, z0, z1, z2, z3]) rfl FIN
  | some c =>
  simp only [Option.isSome_some]
  obtain ⟨fp, hat, hfr⟩ := hL c rfl
  have hat4 := hat.below hal
  cases hv : vldK c with
  | false =>
    have HN := hid (show cmpOk t u = false by rw [HO.out]; exact hv)
    have HZ := hid (show cmpOf t u = zCo by rw [HF.out, if_neg (by simp [okO, hv])])
    have HV := hid hv
    clear hv
    go_wp2_with fail
    refine (implCoercionValid_any c _ _ _ hat4).mono ?_
    rintro e w5 ⟨rfl, hb5⟩
    rw [HV.out]
    have hB5 := below_trans hB4 hb5
    have bM := (hB5.block (w.heap.size + 1 + 1) (by omega)).trans HBZ.out
    have z0 := (cell_of_block (o := 0) bM).trans (show _ = some (.int .i64 0) from rfl)
    have z1 := (cell_of_block (o := 1) bM).trans (show _ = some (.int .i64 0) from rfl)
    have z2 := (cell_of_block (o := 2) bM).trans (show _ = some (.int .i64 0) from rfl)
    have z3 := (cell_of_block (o := 3) bM).trans (show _ = some (.slice none 0 0) from rfl)
    have yz := fun o => frozen_of_block (o := o) bM
    have FIN := (zero_made w _ (put4_below (M := w.heap.size + 1 + 1) (below_trans HB.out hB5) (by omega) (.int .i64 0) (.int .i64 0) (.int .i64 0) (.slice none 0 0))).conv HZ.out HN.out
    simp only [put4, Nat.zero_add] at FIN
    go_wp2_with fail
    exact bodyPost_ret (v := .tuple #[.agg #[.int .i64 0, .int .i64 0, .int .i64 0, .slice none 0 0], .bool false]) (by simp [results, Try.results23, go_sem, z0, z1, z2, z3]) rfl FIN
  | true =>
  have HN := hid (show cmpOk t u = true by rw [HO.out]; exact hv)
  have HZ := hid (show cmpOf t u = c by rw [HF.out, if_pos (show okO (some c) = true from hv)]; rfl)
  have HV := hid hv
  have HCN := hid (shpK_cnt20Q (d := 9) (t := c) hv (by omega))
  clear hv
  go_wp2_with fail
  refine (implCoercionValid_any c _ _ _ hat4).mono ?_
  rintro e w5 ⟨rfl, hb5⟩
  rw [HV.out]
  have hB5 := below_trans hB4 hb5
  have hp := (hb5.block _ (lt_of_block (alloc_new w3 (Obj.cells #[.int .i64 pk, .int .i64 pg, .int .i64 pl, .slice pa pn pc] 30)))).trans (alloc_new w3 (Obj.cells #[.int .i64 pk, .int .i64 pg, .int .i64 pl, .slice pa pn pc] 30))
  have p0 : w5.cell? ⟨w3.heap.size, 0, none⟩ = some (.int .i64 pk) := by rw [cell_of_block hp]; rfl
  have p1 : w5.cell? ⟨w3.heap.size, 1, none⟩ = some (.int .i64 pg) := by rw [cell_of_block hp]; rfl
  have p2 : w5.cell? ⟨w3.heap.size, 2, none⟩ = some (.int .i64 pl) := by rw [cell_of_block hp]; rfl
  have p3 : w5.cell? ⟨w3.heap.size, 3, none⟩ = some (.slice pa pn pc) := by rw [cell_of_block hp]; rfl
  go_wp2_with fail
  refine (copyCo_any c _ _ _ (hat4.below hb5) HCN.out).mono ?_
  rintro e w6 ⟨v6, f6, rfl, hat6, hf6, hb6⟩
  obtain ⟨qk, qg, ql, qn, qa, qc, rfl⟩ := hat6.agg
  have hB6 := below_trans hB5 hb6
  have bM := (hB6.block (w.heap.size + 1 + 1) (by omega)).trans HBZ.out
  have z0 := (cell_of_block (o := 0) bM).trans (show _ = some (.int .i64 0) from rfl)
  have z1 := (cell_of_block (o := 1) bM).trans (show _ = some (.int .i64 0) from rfl)
  have z2 := (cell_of_block (o := 2) bM).trans (show _ = some (.int .i64 0) from rfl)
  have z3 := (cell_of_block (o := 3) bM).trans (show _ = some (.slice none 0 0) from rfl)
  have yz := fun o => frozen_of_block (o := o) bM
  have FIN := ((close4 (w := w) (wF := w6) (M := w.heap.size + 1 + 1) (lo := w5.heap.size) hat6 hf6 (by omega) (by have := hB5.size; omega) (below_trans HB.out hB6)).okQ true).conv HZ.out HN.out
  simp only [put4, Nat.zero_add] at FIN
  clear hp p0 p1 p2 p3
  go_wp2_with fail
  exact bodyPost_ret (v := .tuple #[.agg #[.int .i64 qk, .int .i64 qg, .int .i64 ql, .slice qa qn qc], .bool true]) (by simp [results, Try.results23, go_sem, z0, z1, z2, z3]) rfl FIN

end Go.Proofs.Ytolhfcpmhhhjpaa

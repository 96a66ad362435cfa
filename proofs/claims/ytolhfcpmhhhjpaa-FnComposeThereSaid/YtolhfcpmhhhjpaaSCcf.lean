/- CoerceOf, of the specification and of the program. -/
import Derived.Test.YtolhfcpmhhhjpaaSG3
import Derived.Test.YtolhfcpmhhhjpaaSCs6
import Derived.Test.YtolhfcpmhhhjpaaSCi6
import Derived.Test.YtolhfcpmhhhjpaaSG19
namespace Go.Proofs.Ytolhfcpmhhhjpaa
open Go.RowKit

/-- What a call says that hands back a coercion of its own, and whether there is one. -/
def MadeCB (w : World) (t : Co) (ok : Bool) (e : Ending) (w' : World) : Prop := ∃ v fp, e = .returned (.tuple #[v, .bool ok]) ∧ t.At w' v fp ∧ Fresh w.heap.size w' fp ∧ Below w.heap.size w w'

theorem MadeC.ok {w w' : World} {t : Co} {v : Value} (h : MadeC w t (.returned v) w') (b : Bool) : MadeCB w t b (.returned (.tuple #[v, .bool b])) w' := by
  obtain ⟨v', fp, e, h1, h2, h3⟩ := h
  cases e
  exact ⟨v, fp, rfl, h1, h2, h3⟩

theorem MadeCB.conv {w w' : World} {t t' : Co} {ok ok' : Bool} {e : Ending} (h : MadeCB w t ok e w') (h1 : t' = t) (h2 : ok' = ok) : MadeCB w t' ok' e w' := by
  subst h1
  subst h2
  exact h

def cstOk (f t : Ty) (l : Int) : Bool := consOf f t && isLb l
def cstOf (f t : Ty) (l : Int) : Co := if cstOk f t l then cst 8 f t l else .mk 0 0 0 []

theorem cstOf_cnt (f t : Ty) (l : Int) : (cstOf f t l).cnt ≤ 1048576 := by
  unfold cstOf
  split
  · have := cst_cnt 8 f t l
    simp only [Nat.reduceAdd, Nat.reducePow] at this
    omega
  · simp [Co.cnt, ccntL]

set_option maxHeartbeats 2000000 in
set_option maxRecDepth 100000 in
theorem specCoerceOf (f t : Ty) (l : Int) (vf vt : Value) (ff ft : List Nat) (w : World) (hatf : f.At w vf ff) (hatt : t.At w vt ft) :
    Calls Try.prog 15 #[vf, vt, .int .i64 l] w (MadeCB w (cstOf f t l) (cstOk f t l)) := by
  obtain ⟨kf, nf, af, cf, rfl⟩ := hatf.agg
  obtain ⟨kt, nt, at', ct, rfl⟩ := hatt.agg
  have hb0 : Below w.heap.size w (((w.alloc (Obj.cells #[.int .i64 kf, .slice af nf cf] 25)).alloc (Obj.cells #[.int .i64 kt, .slice at' nt ct] 25)).alloc (Obj.cells #[.int .i64 0, .int .i64 0, .int .i64 0, .slice none 0 0] 30)) := (((Below.refl _ _).alloc (Nat.le_refl _) _).alloc (by simp) _).alloc (by simp; omega) _
  have HF := hid (hatf.below hb0)
  have HT := hid (hatt.below hb0)
  have HB := hid hb0
  have hs0 : ((((w.alloc (Obj.cells #[.int .i64 kf, .slice af nf cf] 25)).alloc (Obj.cells #[.int .i64 kt, .slice at' nt ct] 25)).alloc (Obj.cells #[.int .i64 0, .int .i64 0, .int .i64 0, .slice none 0 0] 30))).heap.size = w.heap.size + 1 + 1 + 1 := by simp
  have HS0 := hid hs0
  have HZ := hid (fun (wF : World) (ok : Bool) (h : Below ((((w.alloc (Obj.cells #[.int .i64 kf, .slice af nf cf] 25)).alloc (Obj.cells #[.int .i64 kt, .slice at' nt ct] 25)).alloc (Obj.cells #[.int .i64 0, .int .i64 0, .int .i64 0, .slice none 0 0] 30))).heap.size (((w.alloc (Obj.cells #[.int .i64 kf, .slice af nf cf] 25)).alloc (Obj.cells #[.int .i64 kt, .slice at' nt ct] 25)).alloc (Obj.cells #[.int .i64 0, .int .i64 0, .int .i64 0, .slice none 0 0] 30)) wF) => (close4 (w := w) (wF := wF) (M := w.heap.size + 1 + 1) (lo := w.heap.size + 1 + 1 + 1) (t := .mk 0 0 0 []) (fp := []) (Co.at_mk.2 ⟨.slice none 0 0, rfl, CSl.nilA⟩) (Fresh.nil _ _) (by omega) (by omega) (below_trans hb0 h)).ok ok)
  clear hb0 hs0 hatf hatt
  cases hc : consOf f t with
  | false =>
    have HO := hid (show cstOk f t l = false by simp [cstOk, hc])
    have HR := hid (show cstOf f t l = .mk 0 0 0 [] by simp [cstOf, cstOk, hc])
    have HC := hid hc
    clear hc
    go_enter Try.func15, Try.ntmps15
    go_wp2_with fail
    refine (specConsistent f t _ _ _ _ _ HF.out HT.out).mono ?_
    rintro e w1 ⟨he, hb1⟩
    rw [HC.out] at he
    subst he
    have bM := ((hb1).block (w.heap.size + 1 + 1) (by have := HS0.out; omega)).trans (three3 (Below.refl ((((w.alloc (Obj.cells #[.int .i64 kf, .slice af nf cf] 25)).alloc (Obj.cells #[.int .i64 kt, .slice at' nt ct] 25)).alloc (Obj.cells #[.int .i64 0, .int .i64 0, .int .i64 0, .slice none 0 0] 30))).heap.size (((w.alloc (Obj.cells #[.int .i64 kf, .slice af nf cf] 25)).alloc (Obj.cells #[.int .i64 kt, .slice at' nt ct] 25)).alloc (Obj.cells #[.int .i64 0, .int .i64 0, .int .i64 0, .slice none 0 0] 30)))).2.2
    have z0 := (cell_of_block (o := 0) bM).trans (show _ = some (.int .i64 0) from rfl)
    have z1 := (cell_of_block (o := 1) bM).trans (show _ = some (.int .i64 0) from rfl)
    have z2 := (cell_of_block (o := 2) bM).trans (show _ = some (.int .i64 0) from rfl)
    have z3 := (cell_of_block (o := 3) bM).trans (show _ = some (.slice none 0 0) from rfl)
    have yz := fun o => frozen_of_block (o := o) bM
    have FIN := (HZ.out _ false hb1).conv HR.out HO.out
    simp only [put4, Nat.zero_add] at FIN
    go_wp2_with fail
    exact bodyPost_ret (v := .tuple #[.agg #[.int .i64 0, .int .i64 0, .int .i64 0, .slice none 0 0], .bool false]) (by simp [results, Try.results15, go_sem, z0, z1, z2, z3]) rfl FIN
  | true =>
  cases hl : isLb l with
  | false =>
    have HO := hid (show cstOk f t l = false by simp [cstOk, hl])
    have HR := hid (show cstOf f t l = .mk 0 0 0 [] by simp [cstOf, cstOk, hl])
    have HC := hid hc
    have HL := hid hl
    clear hc hl
    go_enter Try.func15, Try.ntmps15
    go_wp2_with fail
    refine (specConsistent f t _ _ _ _ _ HF.out HT.out).mono ?_
    rintro e w1 ⟨he, hb1⟩
    rw [HC.out] at he
    subst he
    go_wp2_with fail
    refine (l6Label_any _ _).mono ?_
    rw [HL.out]
    rintro e w2 ⟨rfl, rfl⟩
    have bM := ((hb1).block (w.heap.size + 1 + 1) (by have := HS0.out; omega)).trans (three3 (Below.refl ((((w.alloc (Obj.cells #[.int .i64 kf, .slice af nf cf] 25)).alloc (Obj.cells #[.int .i64 kt, .slice at' nt ct] 25)).alloc (Obj.cells #[.int .i64 0, .int .i64 0, .int .i64 0, .slice none 0 0] 30))).heap.size (((w.alloc (Obj.cells #[.int .i64 kf, .slice af nf cf] 25)).alloc (Obj.cells #[.int .i64 kt, .slice at' nt ct] 25)).alloc (Obj.cells #[.int .i64 0, .int .i64 0, .int .i64 0, .slice none 0 0] 30)))).2.2
    have z0 := (cell_of_block (o := 0) bM).trans (show _ = some (.int .i64 0) from rfl)
    have z1 := (cell_of_block (o := 1) bM).trans (show _ = some (.int .i64 0) from rfl)
    have z2 := (cell_of_block (o := 2) bM).trans (show _ = some (.int .i64 0) from rfl)
    have z3 := (cell_of_block (o := 3) bM).trans (show _ = some (.slice none 0 0) from rfl)
    have yz := fun o => frozen_of_block (o := o) bM
    have FIN := (HZ.out _ false hb1).conv HR.out HO.out
    simp only [put4, Nat.zero_add] at FIN
    go_wp2_with fail
    exact bodyPost_ret (v := .tuple #[.agg #[.int .i64 0, .int .i64 0, .int .i64 0, .slice none 0 0], .bool false]) (by simp [results, Try.results15, go_sem, z0, z1, z2, z3]) rfl FIN
  | true =>
    have HO := hid (show cstOk f t l = true by simp [cstOk, hc, hl])
    have HR := hid (show cstOf f t l = cst 8 f t l by simp [cstOf, cstOk, hc, hl])
    have HC := hid hc
    have HL := hid hl
    have HN := hid (isLb_rng hl)
    have HV := hid (show shp 4 f = true ∧ shp 4 t = true ∧ cons f t = true by
      have h := hc
      simp only [consOf, vld, Bool.and_eq_true] at h
      exact ⟨by first | exact h.1.1 | exact h.1, by first | exact h.1.2 | exact h.2.1, by first | exact h.2 | exact h.2.2⟩)
    clear hc hl
    go_enter Try.func15, Try.ntmps15
    go_wp2_with fail
    refine (specConsistent f t _ _ _ _ _ HF.out HT.out).mono ?_
    rintro e w1 ⟨he, hb1⟩
    rw [HC.out] at he
    subst he
    go_wp2_with fail
    refine (l6Label_any _ _).mono ?_
    rw [HL.out]
    rintro e w2 ⟨rfl, rfl⟩
    obtain ⟨bF, bG, bZ⟩ := three3 hb1
    have x0 := (cell_of_block (o := 0) bF).trans (show _ = some (.int .i64 kf) from rfl)
    have x1 := (cell_of_block (o := 1) bF).trans (show _ = some (.slice af nf cf) from rfl)
    have y0 := (cell_of_block (o := 0) bG).trans (show _ = some (.int .i64 kt) from rfl)
    have y1 := (cell_of_block (o := 1) bG).trans (show _ = some (.slice at' nt ct) from rfl)
    go_wp2_with fail
    refine (l6Cast_any 8 f t l 4 _ _ _ _ _ (.inl (by omega)) (by omega) HV.out.1 HV.out.2.1 HV.out.2.2 HN.out.1 HN.out.2 (HF.out.below hb1) (HT.out.below hb1)).mono ?_
    rintro e w3 ⟨v3, f3, rfl, hat3, hf3, hb3⟩
    obtain ⟨p0, p1, p2, pn, pa, pc, rfl⟩ := hat3.agg
    have hB := below_trans hb1 hb3
    have bM := (hB.block (w.heap.size + 1 + 1) (by have := HS0.out; omega)).trans (three3 (Below.refl ((((w.alloc (Obj.cells #[.int .i64 kf, .slice af nf cf] 25)).alloc (Obj.cells #[.int .i64 kt, .slice at' nt ct] 25)).alloc (Obj.cells #[.int .i64 0, .int .i64 0, .int .i64 0, .slice none 0 0] 30))).heap.size (((w.alloc (Obj.cells #[.int .i64 kf, .slice af nf cf] 25)).alloc (Obj.cells #[.int .i64 kt, .slice at' nt ct] 25)).alloc (Obj.cells #[.int .i64 0, .int .i64 0, .int .i64 0, .slice none 0 0] 30)))).2.2
    have z0 := (cell_of_block (o := 0) bM).trans (show _ = some (.int .i64 0) from rfl)
    have z1 := (cell_of_block (o := 1) bM).trans (show _ = some (.int .i64 0) from rfl)
    have z2 := (cell_of_block (o := 2) bM).trans (show _ = some (.int .i64 0) from rfl)
    have z3 := (cell_of_block (o := 3) bM).trans (show _ = some (.slice none 0 0) from rfl)
    have yz := fun o => frozen_of_block (o := o) bM
    have FIN := ((close4 (w := w) (M := w.heap.size + 1 + 1) hat3 (hf3.mono hb1.size) (by omega) (by have := HS0.out; omega) (below_trans HB.out hB)).ok true).conv HR.out HO.out
    simp only [put4, Nat.zero_add] at FIN
    clear bF bG bZ x0 x1 y0 y1
    go_wp2_with fail
    exact bodyPost_ret (v := .tuple #[.agg #[.int .i64 p0, .int .i64 p1, .int .i64 p2, .slice pa pn pc], .bool true]) (by simp [results, Try.results15, go_sem, z0, z1, z2, z3]) rfl FIN

set_option maxHeartbeats 2000000 in
set_option maxRecDepth 100000 in
theorem implCoerceOf (f t : Ty) (l : Int) (vf vt : Value) (ff ft : List Nat) (w : World) (hatf : f.At w vf ff) (hatt : t.At w vt ft) :
    Calls Try.prog 14 #[vf, vt, .int .i64 l] w (MadeCB w (cstOf f t l) (cstOk f t l)) := by
  obtain ⟨kf, nf, af, cf, rfl⟩ := hatf.agg
  obtain ⟨kt, nt, at', ct, rfl⟩ := hatt.agg
  have hb0 : Below w.heap.size w (((w.alloc (Obj.cells #[.int .i64 kf, .slice af nf cf] 25)).alloc (Obj.cells #[.int .i64 kt, .slice at' nt ct] 25)).alloc (Obj.cells #[.int .i64 0, .int .i64 0, .int .i64 0, .slice none 0 0] 30)) := (((Below.refl _ _).alloc (Nat.le_refl _) _).alloc (by simp) _).alloc (by simp; omega) _
  have HF := hid (hatf.below hb0)
  have HT := hid (hatt.below hb0)
  have HB := hid hb0
  have hs0 : ((((w.alloc (Obj.cells #[.int .i64 kf, .slice af nf cf] 25)).alloc (Obj.cells #[.int .i64 kt, .slice at' nt ct] 25)).alloc (Obj.cells #[.int .i64 0, .int .i64 0, .int .i64 0, .slice none 0 0] 30))).heap.size = w.heap.size + 1 + 1 + 1 := by simp
  have HS0 := hid hs0
  have HZ := hid (fun (wF : World) (ok : Bool) (h : Below ((((w.alloc (Obj.cells #[.int .i64 kf, .slice af nf cf] 25)).alloc (Obj.cells #[.int .i64 kt, .slice at' nt ct] 25)).alloc (Obj.cells #[.int .i64 0, .int .i64 0, .int .i64 0, .slice none 0 0] 30))).heap.size (((w.alloc (Obj.cells #[.int .i64 kf, .slice af nf cf] 25)).alloc (Obj.cells #[.int .i64 kt, .slice at' nt ct] 25)).alloc (Obj.cells #[.int .i64 0, .int .i64 0, .int .i64 0, .slice none 0 0] 30)) wF) => (close4 (w := w) (wF := wF) (M := w.heap.size + 1 + 1) (lo := w.heap.size + 1 + 1 + 1) (t := .mk 0 0 0 []) (fp := []) (Co.at_mk.2 ⟨.slice none 0 0, rfl, CSl.nilA⟩) (Fresh.nil _ _) (by omega) (by omega) (below_trans hb0 h)).ok ok)
  clear hb0 hs0 hatf hatt
  cases hc : consOf f t with
  | false =>
    have HO := hid (show cstOk f t l = false by simp [cstOk, hc])
    have HR := hid (show cstOf f t l = .mk 0 0 0 [] by simp [cstOf, cstOk, hc])
    have HC := hid hc
    clear hc
    go_enter Try.func14, Try.ntmps14
    go_wp2_with fail
    refine (implConsistent f t _ _ _ _ _ HF.out HT.out).mono ?_
    rintro e w1 ⟨he, hb1⟩
    rw [HC.out] at he
    subst he
    have bM := ((hb1).block (w.heap.size + 1 + 1) (by have := HS0.out; omega)).trans (three3 (Below.refl ((((w.alloc (Obj.cells #[.int .i64 kf, .slice af nf cf] 25)).alloc (Obj.cells #[.int .i64 kt, .slice at' nt ct] 25)).alloc (Obj.cells #[.int .i64 0, .int .i64 0, .int .i64 0, .slice none 0 0] 30))).heap.size (((w.alloc (Obj.cells #[.int .i64 kf, .slice af nf cf] 25)).alloc (Obj.cells #[.int .i64 kt, .slice at' nt ct] 25)).alloc (Obj.cells #[.int .i64 0, .int .i64 0, .int .i64 0, .slice none 0 0] 30)))).2.2
    have z0 := (cell_of_block (o := 0) bM).trans (show _ = some (.int .i64 0) from rfl)
    have z1 := (cell_of_block (o := 1) bM).trans (show _ = some (.int .i64 0) from rfl)
    have z2 := (cell_of_block (o := 2) bM).trans (show _ = some (.int .i64 0) from rfl)
    have z3 := (cell_of_block (o := 3) bM).trans (show _ = some (.slice none 0 0) from rfl)
    have yz := fun o => frozen_of_block (o := o) bM
    have FIN := (HZ.out _ false hb1).conv HR.out HO.out
    simp only [put4, Nat.zero_add] at FIN
    go_wp2_with fail
    exact bodyPost_ret (v := .tuple #[.agg #[.int .i64 0, .int .i64 0, .int .i64 0, .slice none 0 0], .bool false]) (by simp [results, Try.results14, go_sem, z0, z1, z2, z3]) rfl FIN
  | true =>
  cases hl : isLb l with
  | false =>
    have HO := hid (show cstOk f t l = false by simp [cstOk, hl])
    have HR := hid (show cstOf f t l = .mk 0 0 0 [] by simp [cstOf, cstOk, hl])
    have HC := hid hc
    have HL := hid hl
    clear hc hl
    go_enter Try.func14, Try.ntmps14
    go_wp2_with fail
    refine (implConsistent f t _ _ _ _ _ HF.out HT.out).mono ?_
    rintro e w1 ⟨he, hb1⟩
    rw [HC.out] at he
    subst he
    go_wp2_with fail
    refine (isLabel_any _ _).mono ?_
    rw [HL.out]
    rintro e w2 ⟨rfl, rfl⟩
    have bM := ((hb1).block (w.heap.size + 1 + 1) (by have := HS0.out; omega)).trans (three3 (Below.refl ((((w.alloc (Obj.cells #[.int .i64 kf, .slice af nf cf] 25)).alloc (Obj.cells #[.int .i64 kt, .slice at' nt ct] 25)).alloc (Obj.cells #[.int .i64 0, .int .i64 0, .int .i64 0, .slice none 0 0] 30))).heap.size (((w.alloc (Obj.cells #[.int .i64 kf, .slice af nf cf] 25)).alloc (Obj.cells #[.int .i64 kt, .slice at' nt ct] 25)).alloc (Obj.cells #[.int .i64 0, .int .i64 0, .int .i64 0, .slice none 0 0] 30)))).2.2
    have z0 := (cell_of_block (o := 0) bM).trans (show _ = some (.int .i64 0) from rfl)
    have z1 := (cell_of_block (o := 1) bM).trans (show _ = some (.int .i64 0) from rfl)
    have z2 := (cell_of_block (o := 2) bM).trans (show _ = some (.int .i64 0) from rfl)
    have z3 := (cell_of_block (o := 3) bM).trans (show _ = some (.slice none 0 0) from rfl)
    have yz := fun o => frozen_of_block (o := o) bM
    have FIN := (HZ.out _ false hb1).conv HR.out HO.out
    simp only [put4, Nat.zero_add] at FIN
    go_wp2_with fail
    exact bodyPost_ret (v := .tuple #[.agg #[.int .i64 0, .int .i64 0, .int .i64 0, .slice none 0 0], .bool false]) (by simp [results, Try.results14, go_sem, z0, z1, z2, z3]) rfl FIN
  | true =>
    have HO := hid (show cstOk f t l = true by simp [cstOk, hc, hl])
    have HR := hid (show cstOf f t l = cst 8 f t l by simp [cstOf, cstOk, hc, hl])
    have HC := hid hc
    have HL := hid hl
    have HN := hid (isLb_rng hl)
    have HV := hid (show shp 4 f = true ∧ shp 4 t = true ∧ cons f t = true by
      have h := hc
      simp only [consOf, vld, Bool.and_eq_true] at h
      exact ⟨by first | exact h.1.1 | exact h.1, by first | exact h.1.2 | exact h.2.1, by first | exact h.2 | exact h.2.2⟩)
    clear hc hl
    go_enter Try.func14, Try.ntmps14
    go_wp2_with fail
    refine (implConsistent f t _ _ _ _ _ HF.out HT.out).mono ?_
    rintro e w1 ⟨he, hb1⟩
    rw [HC.out] at he
    subst he
    go_wp2_with fail
    refine (isLabel_any _ _).mono ?_
    rw [HL.out]
    rintro e w2 ⟨rfl, rfl⟩
    obtain ⟨bF, bG, bZ⟩ := three3 hb1
    have x0 := (cell_of_block (o := 0) bF).trans (show _ = some (.int .i64 kf) from rfl)
    have x1 := (cell_of_block (o := 1) bF).trans (show _ = some (.slice af nf cf) from rfl)
    have y0 := (cell_of_block (o := 0) bG).trans (show _ = some (.int .i64 kt) from rfl)
    have y1 := (cell_of_block (o := 1) bG).trans (show _ = some (.slice at' nt ct) from rfl)
    go_wp2_with fail
    refine (coerce_any 8 f t l 4 _ _ _ _ _ (.inl (by omega)) (by omega) HV.out.1 HV.out.2.1 HV.out.2.2 HN.out.1 HN.out.2 (HF.out.below hb1) (HT.out.below hb1)).mono ?_
    rintro e w3 ⟨v3, f3, rfl, hat3, hf3, hb3⟩
    obtain ⟨p0, p1, p2, pn, pa, pc, rfl⟩ := hat3.agg
    have hB := below_trans hb1 hb3
    have bM := (hB.block (w.heap.size + 1 + 1) (by have := HS0.out; omega)).trans (three3 (Below.refl ((((w.alloc (Obj.cells #[.int .i64 kf, .slice af nf cf] 25)).alloc (Obj.cells #[.int .i64 kt, .slice at' nt ct] 25)).alloc (Obj.cells #[.int .i64 0, .int .i64 0, .int .i64 0, .slice none 0 0] 30))).heap.size (((w.alloc (Obj.cells #[.int .i64 kf, .slice af nf cf] 25)).alloc (Obj.cells #[.int .i64 kt, .slice at' nt ct] 25)).alloc (Obj.cells #[.int .i64 0, .int .i64 0, .int .i64 0, .slice none 0 0] 30)))).2.2
    have z0 := (cell_of_block (o := 0) bM).trans (show _ = some (.int .i64 0) from rfl)
    have z1 := (cell_of_block (o := 1) bM).trans (show _ = some (.int .i64 0) from rfl)
    have z2 := (cell_of_block (o := 2) bM).trans (show _ = some (.int .i64 0) from rfl)
    have z3 := (cell_of_block (o := 3) bM).trans (show _ = some (.slice none 0 0) from rfl)
    have yz := fun o => frozen_of_block (o := o) bM
    have FIN := ((close4 (w := w) (M := w.heap.size + 1 + 1) hat3 (hf3.mono hb1.size) (by omega) (by have := HS0.out; omega) (below_trans HB.out hB)).ok true).conv HR.out HO.out
    simp only [put4, Nat.zero_add] at FIN
    clear bF bG bZ x0 x1 y0 y1
    go_wp2_with fail
    exact bodyPost_ret (v := .tuple #[.agg #[.int .i64 p0, .int .i64 p1, .int .i64 p2, .slice pa pn pc], .bool true]) (by simp [results, Try.results14, go_sem, z0, z1, z2, z3]) rfl FIN

end Go.Proofs.Ytolhfcpmhhhjpaa

/- FormatCast, of both sides. -/
import Derived.Test.YtgekfnodmgkdaaaDoorXtS
import Derived.Test.YtgekfnodmgkdaaaDoorXtW
import Derived.Test.YtgekfnodmgkdaaaDoorC4
namespace Go.Proofs.YtgekfnodmgkdaaaDoor
open Go.RowKit

/-- The text of a valid term; nothing of one that is not valid. -/
def fmtM (t : Tm) : List UInt8 := if vldM t then tmX t else []
def fmtC (t : Tm) : List UInt8 := if vldC t then tmX t else []

theorem vldM_ok {t : Tm} (h : vldM t = true) : xOk 12 t = true := by
  unfold vldM at h
  simp only [Bool.and_eq_true] at h
  unfold xOk
  rw [h.1]
  rfl
theorem vldC_xok {t : Tm} (h : vldC t = true) : xOk 40 t = true := by
  unfold vldC at h
  simp only [Bool.and_eq_true] at h
  unfold xOk
  rw [h.1, Bool.or_true]

set_option maxRecDepth 100000 in
set_option maxHeartbeats 2000000 in
/-- A grammar's format. -/
theorem format_any (g0 g1 g2 : Int) (ok : Bool) (d : Nat) (t : Tm) (v : Value) (fp : List Nat) (w : World) (hsz : t.sz ≤ 1048576) (hF : Forms w) (htab : Lib.TabIs Tryd.prog w "internal/strconv.uint64pow10" .u64 Lib.pow10Tab) (hat : t.At w v fp)
    (hacc : ∀ w0, Forms w0 → t.At w0 v fp → Calls Tryd.prog 130 #[.agg #[.int .i64 g0, .int .i64 g1, .int .i64 g2], v] w0 fun e w' => e = .returned (.bool ok) ∧ Below w0.heap.size w0 w') (hok : ok = true → xOk d t = true) :
    Calls Tryd.prog 193 #[.agg #[.int .i64 g0, .int .i64 g1, .int .i64 g2], v] w fun e w' => e = .returned (.string ⟨(if ok then tmX t else []).toArray⟩) ∧ Below w.heap.size w w' := by
  have hlt := hat.lt
  have hF0 : 0 < w.heap.size := World.block_lt_of_cell? _ _ (hF 0 (by omega))
  obtain ⟨k, nm, num, k1, n1, a1, c1, k2, n2, a2, c2, lb, n3, a3, c3, rfl⟩ := hat.agg
  have hbA : Below w.heap.size w (w.alloc (Obj.cells #[.int .i64 g0, .int .i64 g1, .int .i64 g2] 118)) := (Below.refl _ _).alloc (Nat.le_refl _) _
  have hbB : Below (w.alloc (Obj.cells #[.int .i64 g0, .int .i64 g1, .int .i64 g2] 118)).heap.size (w.alloc (Obj.cells #[.int .i64 g0, .int .i64 g1, .int .i64 g2] 118)) ((w.alloc (Obj.cells #[.int .i64 g0, .int .i64 g1, .int .i64 g2] 118)).alloc (Obj.cells #[.int .i64 k, .string nm, .int .i64 num, .int .i64 k1, .slice a1 n1 c1, .int .i64 k2, .slice a2 n2 c2, .int .i64 lb, .slice a3 n3 c3] 35)) := (Below.refl _ _).alloc (Nat.le_refl _) _
  have hb0 := below_trans hbA hbB
  have HCALL := hid (hacc _ (hF.below hb0) (hat.below hb0))
  have HOK := hid hok
  have HTAB := hid ((Lib.tabBelow_of_tabIs htab))
  obtain ⟨x0, x1, x2, -⟩ := cells3 (alloc_new w (Obj.cells #[.int .i64 g0, .int .i64 g1, .int .i64 g2] 118))
  replace x0 := cell_keep x0 hbB
  replace x1 := cell_keep x1 hbB
  replace x2 := cell_keep x2 hbB
  obtain ⟨z0, z1, z2, z3, z4, z5, z6, z7, z8⟩ := cells9 (alloc_new (w.alloc (Obj.cells #[.int .i64 g0, .int .i64 g1, .int .i64 g2] 118)) (Obj.cells #[.int .i64 k, .string nm, .int .i64 num, .int .i64 k1, .slice a1 n1 c1, .int .i64 k2, .slice a2 n2 c2, .int .i64 lb, .slice a3 n3 c3] 35))
  have hsA : (w.alloc (Obj.cells #[.int .i64 g0, .int .i64 g1, .int .i64 g2] 118)).heap.size = w.heap.size + 1 := by simp
  rw [hsA] at z0 z1 z2 z3 z4 z5 z6 z7 z8
  clear hacc htab hok
  go_enter Tryd.func193, Tryd.ntmps193
  go_wp2_with fail
  refine HCALL.out.mono ?_
  rintro e w1 ⟨rfl, hb1⟩
  have b1 := below_trans hb0 hb1
  cases ok
  · go_wp2_with fail
    go_ret
    exact ⟨ret_s rfl, b1⟩
  · replace z0 := cell_keep z0 hb1
    replace z1 := cell_keep z1 hb1
    replace z2 := cell_keep z2 hb1
    replace z3 := cell_keep z3 hb1
    replace z4 := cell_keep z4 hb1
    replace z5 := cell_keep z5 hb1
    replace z6 := cell_keep z6 hb1
    replace z7 := cell_keep z7 hb1
    replace z8 := cell_keep z8 hb1
    have hba : Below w1.heap.size w1 (w1.alloc (Obj.cells #[.pointer none, .slice none 0 0] 83)) := (Below.refl _ _).alloc (Nat.le_refl _) _
    replace z0 := cell_keep z0 hba
    replace z1 := cell_keep z1 hba
    replace z2 := cell_keep z2 hba
    replace z3 := cell_keep z3 hba
    replace z4 := cell_keep z4 hba
    replace z5 := cell_keep z5 hba
    replace z6 := cell_keep z6 hba
    replace z7 := cell_keep z7 hba
    replace z8 := cell_keep z8 hba
    have HI := hid (Lib.IsBuilderF.of (Lib.fresh_isBuilder 83 5 w1))
    have b2 := below_trans b1 hba
    have HAT := hid (hat.below b2)
    have HBA := hid hba
    have hs1 := b1.size
    have HW := hid (writeTerm_any t d _ fp w1.heap.size w1.heap.size [] _ HAT.out (HOK.out rfl) hsz (fun x hx => by have := hlt x hx; omega) (hF.below b2) (Lib.tabBelow_of_tabIs (((HTAB.out.on b1).here)) |>.on HBA.out) (by omega) (by simp) (by simp) (by have := tmX_len t d (HOK.out rfl); simp only [List.length_nil]; omega) HI.out)
    clear hba
    go_wp2_with fail
    refine HW.out.mono ?_
    rintro e w2 ⟨⟨r2, rfl⟩, hi2, hb2, hk2⟩
    have HI2 := hid hi2
    have HB2 := hid hb2
    clear hi2 hb2 hk2
    have hsz2 : w1.heap.size ≤ w2.heap.size := Nat.le_trans HBA.out.size HB2.out.size
    go_wp2_with fail
    refine (bldString w1.heap.size w1.heap.size _ _ HI2.out hsz2).mono ?_
    rintro e w3 ⟨rfl, hi3, hb3, hk3⟩
    have hbb := b1.trans ((HBA.out.trans (HB2.out.trans hb3)).mono b1.size)
    clear hi3 hb3 hk3
    go_wp2_with fail
    go_ret
    exact ⟨ret_s rfl, hbb⟩

set_option maxRecDepth 100000 in
set_option maxHeartbeats 1000000 in
theorem implFormatCast (t : Tm) (v : Value) (fp : List Nat) (w : World) (hsz : t.sz ≤ 1048576) (hF : Forms w) (htab : Lib.TabIs Tryd.prog w "internal/strconv.uint64pow10" .u64 Lib.pow10Tab) (hat : t.At w v fp) :
    Calls Tryd.prog 151 #[v] w fun e w' => e = .returned (.string ⟨(fmtC t).toArray⟩) ∧ Below w.heap.size w w' := by
  obtain ⟨k, nm, num, k1, n1, a1, c1, k2, n2, a2, c2, lb, n3, a3, c3, rfl⟩ := hat.agg
  have hb0 : Below w.heap.size w (w.alloc (Obj.cells #[.int .i64 k, .string nm, .int .i64 num, .int .i64 k1, .slice a1 n1 c1, .int .i64 k2, .slice a2 n2 c2, .int .i64 lb, .slice a3 n3 c3] 35)) := (Below.refl _ _).alloc (Nat.le_refl _) _
  have HACC := hid (show ∀ w0, Forms w0 → t.At w0 (.agg #[.int .i64 k, .string nm, .int .i64 num, .int .i64 k1, .slice a1 n1 c1, .int .i64 k2, .slice a2 n2 c2, .int .i64 lb, .slice a3 n3 c3]) fp → Calls Tryd.prog 130 #[.agg #[.int .i64 14, .int .i64 200, .int .i64 40], .agg #[.int .i64 k, .string nm, .int .i64 num, .int .i64 k1, .slice a1 n1 c1, .int .i64 k2, .slice a2 n2 c2, .int .i64 lb, .slice a3 n3 c3]] w0 fun e w' => e = .returned (.bool (vldC t)) ∧ Below w0.heap.size w0 w' from
    fun w0 h1 h2 => (accepts_any 14 (by decide) 200 40 40 (by omega) (by omega) (by omega) rfl t _ _ w0 h1 h2).mono fun _ _ ⟨he, hb⟩ => ⟨he.trans (ret_b (cwC_pos t)), hb⟩)
  obtain ⟨z0, z1, z2, z3, z4, z5, z6, z7, z8⟩ := box9 (Below.refl (w.alloc (Obj.cells #[.int .i64 k, .string nm, .int .i64 num, .int .i64 k1, .slice a1 n1 c1, .int .i64 k2, .slice a2 n2 c2, .int .i64 lb, .slice a3 n3 c3] 35)).heap.size (w.alloc (Obj.cells #[.int .i64 k, .string nm, .int .i64 num, .int .i64 k1, .slice a1 n1 c1, .int .i64 k2, .slice a2 n2 c2, .int .i64 lb, .slice a3 n3 c3] 35)))
  have HB := hid hb0
  have HA := hid hat
  have HF := hid hF
  have HTAB := hid (Lib.tabBelow_of_tabIs htab)
  have HT := hid (show fmtC t = if vldC t then tmX t else [] from rfl)
  clear hb0 hat hF htab
  go_enter Tryd.func151, Tryd.ntmps151
  go_wp2_with fail
  go_region_held3 (fun w' => Below (w.alloc (Obj.cells #[.int .i64 k, .string nm, .int .i64 num, .int .i64 k1, .slice a1 n1 c1, .int .i64 k2, .slice a2 n2 c2, .int .i64 lb, .slice a3 n3 c3] 35)).heap.size (w.alloc (Obj.cells #[.int .i64 k, .string nm, .int .i64 num, .int .i64 k1, .slice a1 n1 c1, .int .i64 k2, .slice a2 n2 c2, .int .i64 lb, .slice a3 n3 c3] 35)) w' ∧ w'.cell? ⟨w.heap.size, 0, none⟩ = some (.int .i64 k) ∧ w'.cell? ⟨w.heap.size, 1, none⟩ = some (.string nm) ∧ w'.cell? ⟨w.heap.size, 2, none⟩ = some (.int .i64 num) ∧ w'.cell? ⟨w.heap.size, 3, none⟩ = some (.int .i64 k1) ∧ w'.cell? ⟨w.heap.size, 4, none⟩ = some (.slice a1 n1 c1) ∧ w'.cell? ⟨w.heap.size, 5, none⟩ = some (.int .i64 k2) ∧ w'.cell? ⟨w.heap.size, 6, none⟩ = some (.slice a2 n2 c2) ∧ w'.cell? ⟨w.heap.size, 7, none⟩ = some (.int .i64 lb) ∧ w'.cell? ⟨w.heap.size, 8, none⟩ = some (.slice a3 n3 c3))
    ((refine (fun hB => ⟨hB, cell_keep z0 hB, cell_keep z1 hB, cell_keep z2 hB, cell_keep z3 hB, cell_keep z4 hB, cell_keep z5 hB, cell_keep z6 hB, cell_keep z7 hB, cell_keep z8 hB⟩ : Below (w.alloc (Obj.cells #[.int .i64 k, .string nm, .int .i64 num, .int .i64 k1, .slice a1 n1 c1, .int .i64 k2, .slice a2 n2 c2, .int .i64 lb, .slice a3 n3 c3] 35)).heap.size (w.alloc (Obj.cells #[.int .i64 k, .string nm, .int .i64 num, .int .i64 k1, .slice a1 n1 c1, .int .i64 k2, .slice a2 n2 c2, .int .i64 lb, .slice a3 n3 c3] 35)) _ → _) ?_; (first | exact below_drew _ | exact hk1 | exact hk2)))
    (first
      | (go_at_call 129; refine (castTerms_any _).mono ?_; rintro e w1 ⟨rfl, hy1⟩; have hk1 := below_trans (below_drew _) hy1)
      | (go_at_call 193; refine (format_any 14 200 40 (vldC t) 40 t _ fp _ hsz (HF.out.below (below_trans HB.out hk1)) ((HTAB.out.on (below_trans HB.out hk1)).here) (HA.out.below (below_trans HB.out hk1)) HACC.out (fun h => vldC_xok h)).mono ?_; rw [← HT.out]; rintro e w2 ⟨rfl, hy2⟩; have hk2 := below_trans hk1 hy2))
  go_wp2_with fail
  go_ret
  exact ⟨rfl, below_trans HB.out hk2⟩
end Go.Proofs.YtgekfnodmgkdaaaDoor

/- The program's Consistent and Precise. The program's test of a node: what its forms show. The table of forms out of the row's condition. -/
import Derived.Test.YtjpmlmdbldcbjaaDoorQWalkB
import Derived.Deep.RegionHeld3
import Derived.Test.YtjpmlmdbldcbjaaDoorQPkA
import Derived.Test.YtjpmlmdbldcbjaaDoorQOwn
import Derived.Test.YtjpmlmdbldcbjaaDoorQPkB
import Derived.Test.YtjpmlmdbldcbjaaDoorTie
import Derived.Test.YtjpmlmdbldcbjaaDoorCards
import Derived.LaidMore
import Derived.Stop.Joined
import Derived.OpenVars
import Derived.SevenTiedAt
import Derived.Test.YtjpmlmdbldcbjaaDoorQG1
namespace Go.Proofs.YtjpmlmdbldcbjaaDoor
open Go.RowKit

set_option maxRecDepth 100000 in
theorem callOk_either : CallOk 102 := fun _ _ => by kernel_rfl
set_option maxHeartbeats 400000 in
theorem either_any : ApC 102 eitherB := by
  intro t u v1 v2 f1 f2 w h1 h2
  obtain ⟨k, ts, rfl⟩ := t.shape
  obtain ⟨k', us, rfl⟩ := u.shape
  obtain ⟨s1, rfl, hs1⟩ := Ty.at_mk.1 h1
  obtain ⟨s2, rfl, hs2⟩ := Ty.at_mk.1 h2
  obtain ⟨a, cap, rfl⟩ := hs1.shape
  obtain ⟨a2, cap2, rfl⟩ := hs2.shape
  have hal : Below w.heap.size w ((w.alloc (Obj.cells #[.int .i64 k, .slice a ts.length cap] 31)).alloc (Obj.cells #[.int .i64 k', .slice a2 us.length cap2] 31)) := ((Below.refl _ _).alloc (Nat.le_refl _) _).alloc (by simp) _
  have HAL := hid hal
  have HT := hid (show eitherB (.mk k ts) (.mk k' us) = ((k == 1) || (k' == 1)) from rfl)
  clear hal h1 h2 hs1 hs2
  by_cases hk : k = 1
  · subst hk
    go_enter Tryd.func102, Tryd.ntmps102
    go_wp2_with fail
    go_ret
    exact ⟨ret_b (by rw [HT.out]; rfl), HAL.out⟩
  · have hk1 : (k == 1) = false := by simpa using hk
    clear hk
    go_enter Tryd.func102, Tryd.ntmps102
    go_wp2_with fail
    go_ret
    exact ⟨ret_b (by rw [HT.out, hk1, Bool.false_or]), HAL.out⟩

def consOf (t u : Ty) : Bool := vld t && vld u && cons t u
set_option maxHeartbeats 400000 in
theorem implConsistent (t u : Ty) (v1 v2 : Value) (f1 f2 : List Nat) (w : World) (h1 : t.At w v1 f1) (h2 : u.At w v2 f2) :
    Calls Tryd.prog 95 #[v1, v2] w fun e w' => e = .returned (.bool (consOf t u)) ∧ Below w.heap.size w w' := by
  obtain ⟨k, m, a, cap, rfl⟩ := h1.agg
  obtain ⟨k', m', a', cap', rfl⟩ := h2.agg
  have hB : Below w.heap.size w ((w.alloc (Obj.cells #[.int .i64 k, .slice a m cap] 31)).alloc (Obj.cells #[.int .i64 k', .slice a' m' cap'] 31)) := ((Below.refl _ _).alloc (Nat.le_refl _) _).alloc (by simp) _
  have g1 := h1.below hB
  have g2 := h2.below hB
  cases hv : vld t with
  | false =>
    have HT := hid (show consOf t u = false by simp [consOf, hv])
    have HV := hid hv
    clear hv
    go_enter Tryd.func95, Tryd.ntmps95
    go_wp2_with fail
    refine (implTypeValid_any t _ _ _ g1).mono ?_
    rintro e w1 ⟨he, hb⟩
    rw [HV.out] at he
    subst he
    go_wp2_with fail
    go_ret
    exact ⟨ret_b HT.out.symm, alloc2 hb⟩
  | true =>
  cases hv2 : vld u with
  | false =>
    have HT := hid (show consOf t u = false by simp [consOf, hv2])
    have HV := hid hv
    have HV2 := hid hv2
    clear hv hv2
    go_enter Tryd.func95, Tryd.ntmps95
    go_wp2_with fail
    refine (implTypeValid_any t _ _ _ g1).mono ?_
    rintro e w1 ⟨he, hb⟩
    rw [HV.out] at he
    subst he
    obtain ⟨x0, x1, x2, x3⟩ := box_cells2 hb
    go_wp2_with fail
    refine (implTypeValid_any u _ _ _ (g2.below hb)).mono ?_
    rintro e w2 ⟨he, hb2⟩
    rw [HV2.out] at he
    subst he
    go_wp2_with fail
    go_ret
    exact ⟨ret_b HT.out.symm, below_trans (alloc2 hb) hb2⟩
  | true =>
    have HT := hid (show consOf t u = cons t u by simp [consOf, hv, hv2])
    have hw1 := wf_of_vld hv
    have hw2 := wf_of_vld hv2
    have HV := hid hv
    have HV2 := hid hv2
    clear hv hv2
    go_enter Tryd.func95, Tryd.ntmps95
    go_wp2_with fail
    refine (implTypeValid_any t _ _ _ g1).mono ?_
    rintro e w1 ⟨he, hb⟩
    rw [HV.out] at he
    subst he
    obtain ⟨x0, x1, x2, x3⟩ := box_cells2 hb
    go_wp2_with fail
    refine (implTypeValid_any u _ _ _ (g2.below hb)).mono ?_
    rintro e w2 ⟨he, hb2⟩
    rw [HV2.out] at he
    subst he
    replace x0 := cell_keep x0 hb2
    replace x1 := cell_keep x1 hb2
    replace x2 := cell_keep x2 hb2
    replace x3 := cell_keep x3 hb2
    go_wp2_with fail
    refine (walkB_any _ _ either_any callOk_either t u _ _ _ _ _ ((g1.below hb).below hb2) ((g2.below hb).below hb2) hw1 hw2).mono ?_
    rintro e w3 ⟨rfl, hb3⟩
    have HT2 := HT.out
    try rw [wkB_cons]
    try rw [wkB_prec]
    generalize cons t u = r at *
    have HT3 := hid HT2
    clear HT2 HT
    go_wp2_with fail
    go_ret
    exact ⟨ret_b HT3.out.symm, below_trans (below_trans (alloc2 hb) hb2) hb3⟩

end Go.Proofs.YtjpmlmdbldcbjaaDoor

namespace Go.Proofs.YtjpmlmdbldcbjaaDoor
open Go.RowKit

theorem natbeq_ne {a b : Nat} (h : a ≠ b) : ((a : Int) == (b : Int)) = false := by
  rw [beq_eq_false_iff_ne]
  omega

theorem natbeq_eq {a b : Nat} (h : a = b) : ((a : Int) == (b : Int)) = true := by
  rw [h]
  simp

/-- The forms of the texts, by kinds: what the program's table holds. -/
def frm : Nat → ByteArray
  | 1 => ⟨#[110]⟩ | 2 => ⟨#[100]⟩ | 3 => ⟨#[84]⟩ | 4 => ⟨#[70]⟩ | 5 => ⟨#[33, 110, 58, 116, 46, 65]⟩ | 6 => ⟨#[40, 65, 32, 66, 41]⟩ | 7 => ⟨#[40, 65, 43, 66, 41]⟩ | 8 => ⟨#[40, 65, 60, 66, 41]⟩ | 9 => ⟨#[123, 65, 63, 66, 58, 67, 125]⟩ | 10 => ⟨#[91, 65, 44, 66, 93]⟩ | 11 => ⟨#[36, 65]⟩ | 12 => ⟨#[37, 65]⟩ | 13 => ⟨#[40, 65, 58, 116, 41]⟩
  | 14 => ⟨#[40, 65, 58, 115, 126, 116, 35, 108, 41]⟩
  | _ => ⟨#[]⟩

/-- The program's table, as it lies in the world. -/
def Forms (w : World) : Prop := ∀ j, j < 15 → w.cell? ⟨0, j, none⟩ = some (.string (frm j))

theorem Forms.below {w w' : World} (h : Forms w) (hb : Below w.heap.size w w') : Forms w' := fun j hj => cell_keep (h j hj) hb

theorem frm_opn : ∀ j : Nat, 1 ≤ j → j < 15 → ∃ n : Nat, kidsM j = (n : Int) ∧ Opn (frm j) n := by
  intro j h1 h2
  have : j = 1 ∨ j = 2 ∨ j = 3 ∨ j = 4 ∨ j = 5 ∨ j = 6 ∨ j = 7 ∨ j = 8 ∨ j = 9 ∨ j = 10 ∨ j = 11 ∨ j = 12 ∨ j = 13 ∨ j = 14 := by omega
  unfold Opn
  rcases this with rfl | rfl | rfl | rfl | rfl | rfl | rfl | rfl | rfl | rfl | rfl | rfl | rfl | rfl
  · exact ⟨0, by decide, by decide, by decide, by decide⟩
  · exact ⟨0, by decide, by decide, by decide, by decide⟩
  · exact ⟨0, by decide, by decide, by decide, by decide⟩
  · exact ⟨0, by decide, by decide, by decide, by decide⟩
  · exact ⟨1, by decide, by decide, by decide, by decide⟩
  · exact ⟨2, by decide, by decide, by decide, by decide⟩
  · exact ⟨2, by decide, by decide, by decide, by decide⟩
  · exact ⟨2, by decide, by decide, by decide, by decide⟩
  · exact ⟨3, by decide, by decide, by decide, by decide⟩
  · exact ⟨2, by decide, by decide, by decide, by decide⟩
  · exact ⟨1, by decide, by decide, by decide, by decide⟩
  · exact ⟨1, by decide, by decide, by decide, by decide⟩
  · exact ⟨1, by decide, by decide, by decide, by decide⟩
  · exact ⟨1, by decide, by decide, by decide, by decide⟩

theorem frm_shows : ∀ j : Nat, 1 ≤ j → j < 15 → showsB (frm j) 110 = decide (j = 1 ∨ j = 5) ∧ showsB (frm j) 100 = decide (j = 2) ∧ showsB (frm j) 116 = decide (j = 5 ∨ j = 13 ∨ j = 14) ∧ showsB (frm j) 115 = decide (j = 14) ∧ showsB (frm j) 108 = decide (j = 14) := by
  intro j h1 h2
  have : j = 1 ∨ j = 2 ∨ j = 3 ∨ j = 4 ∨ j = 5 ∨ j = 6 ∨ j = 7 ∨ j = 8 ∨ j = 9 ∨ j = 10 ∨ j = 11 ∨ j = 12 ∨ j = 13 ∨ j = 14 := by omega
  rcases this with rfl | rfl | rfl | rfl | rfl | rfl | rfl | rfl | rfl | rfl | rfl | rfl | rfl | rfl <;> decide

/-- The kinds of a grammar. -/
def hasK (g k : Int) : Bool := (decide (1 ≤ k) && decide (k ≤ 12)) || k == g

/-- The fields of a node are right. -/
def fldG (k : Int) (nm : ByteArray) (num : Int) (ty fr : Ty) (lb : Int) : Bool :=
  (if k = 1 ∨ k = 5 then isNm nm else nm.toList.isEmpty) && (if k = 2 then decide (0 ≤ num) && decide (num ≤ 999) else num == 0) && (if k = 5 ∨ k = 13 ∨ k = 14 then vld ty else noTy ty) && (if k = 14 then consOf fr ty else noTy fr) && (if k = 14 then isLb lb else lb == 0)

/-- A node is right but for what lies below it. -/
def nodeG (g k : Int) (nm : ByteArray) (num : Int) (ty fr : Ty) (lb : Int) (n : Nat) : Bool := hasK g k && (kidsM k == (n : Int)) && fldG k nm num ty fr lb

theorem fldG_eq (j : Nat) (h1 : 1 ≤ j) (h2 : j < 15) (nm : ByteArray) (num : Int) (ty fr : Ty) (lb : Int) :
    fldG (j : Int) nm num ty fr lb = ((if showsB (frm j) 110 = true then isNm nm else nm.toList.isEmpty) && (if showsB (frm j) 100 = true then decide (0 ≤ num) && decide (num ≤ 999) else num == 0) && (if showsB (frm j) 116 = true then vld ty else noTy ty) && (if showsB (frm j) 115 = true then consOf fr ty else noTy fr) && (if showsB (frm j) 108 = true then isLb lb else lb == 0)) := by
  obtain ⟨s1, s2, s3, s4, s5⟩ := frm_shows j h1 h2
  have e1 : ((j : Int) = 1) = (j = 1) := by apply propext; omega
  have e2 : ((j : Int) = 2) = (j = 2) := by apply propext; omega
  have e5 : ((j : Int) = 5) = (j = 5) := by apply propext; omega
  have e13 : ((j : Int) = 13) = (j = 13) := by apply propext; omega
  have e14 : ((j : Int) = 14) = (j = 14) := by apply propext; omega
  unfold fldG
  rw [s1, s2, s3, s4, s5]
  simp only [e1, e2, e5, e13, e14, decide_eq_true_eq]

theorem validOrZero_to {a b c r : Bool} (h : (if a = true then b else c) = r) (w : World) : Calls Tryd.prog 90 #[.bool a, .bool b, .bool c] w fun e w' => e = .returned (.bool r) ∧ w' = w := by
  rw [← h]
  exact validOrZero_any a b c w

theorem num_bad {num : Int} (h : ¬ 0 ≤ num) (b : Bool) : (if b = true then decide (0 ≤ num) && decide (num ≤ 999) else num == 0) = false := by
  have h2 : (num == 0) = false := by rw [beq_eq_false_iff_ne]; omega
  cases b
  · simpa using h2
  · simp; omega

theorem num_neg {num : Int} (h : num < 0) (b : Bool) : (if b = true then false else num == 0) = false := by
  have h2 : (num == 0) = false := by rw [beq_eq_false_iff_ne]; omega
  cases b <;> simp [h2]

theorem num_good {num : Int} (h : 0 ≤ num) (b : Bool) : (if b = true then decide (0 ≤ num) && decide (num ≤ 999) else num == 0) = (if b = true then decide (num ≤ 999) else num == 0) := by
  cases b <;> simp [h]

theorem gbox {w wr : World} {x0 x1 x2 : Value} {O : Obj} (h : Below ((w.alloc (Obj.cells #[x0, x1, x2] 60)).alloc O).heap.size ((w.alloc (Obj.cells #[x0, x1, x2] 60)).alloc O) wr) :
    wr.heap[w.heap.size]? = some (Obj.cells #[x0, x1, x2] 60) ∧ wr.heap[w.heap.size + 1]? = some O := by
  have hs : (w.alloc (Obj.cells #[x0, x1, x2] 60)).heap.size = w.heap.size + 1 := by simp
  refine ⟨(h.block w.heap.size (by simp; omega)).trans ((Below.heap_alloc _ _ _ (by simp)).trans (alloc_new w _)), ?_⟩
  rw [h.block (w.heap.size + 1) (by simp), ← hs]
  exact alloc_new _ _

theorem gbox9 {w wr : World} {y0 y1 y2 x0 x1 x2 x3 x4 x5 x6 x7 x8 : Value} {T : TypeId} (h : Below ((w.alloc (Obj.cells #[y0, y1, y2] 60)).alloc (Obj.cells #[x0, x1, x2, x3, x4, x5, x6, x7, x8] T)).heap.size ((w.alloc (Obj.cells #[y0, y1, y2] 60)).alloc (Obj.cells #[x0, x1, x2, x3, x4, x5, x6, x7, x8] T)) wr) :
    wr.cell? ⟨w.heap.size + 1, 0, none⟩ = some x0 ∧ wr.cell? ⟨w.heap.size + 1, 1, none⟩ = some x1 ∧ wr.cell? ⟨w.heap.size + 1, 2, none⟩ = some x2 ∧ wr.cell? ⟨w.heap.size + 1, 3, none⟩ = some x3 ∧ wr.cell? ⟨w.heap.size + 1, 4, none⟩ = some x4 ∧
      wr.cell? ⟨w.heap.size + 1, 5, none⟩ = some x5 ∧ wr.cell? ⟨w.heap.size + 1, 6, none⟩ = some x6 ∧ wr.cell? ⟨w.heap.size + 1, 7, none⟩ = some x7 ∧ wr.cell? ⟨w.heap.size + 1, 8, none⟩ = some x8 := by
  have hb := (gbox h).2
  simp only [cell_of_block hb]
  exact ⟨rfl, rfl, rfl, rfl, rfl, rfl, rfl, rfl, rfl⟩

set_option maxHeartbeats 400000 in
theorem hasKind_any (g m n k : Int) (w : World) : Calls Tryd.prog 88 #[.agg #[.int .i64 g, .int .i64 m, .int .i64 n], .int .i64 k] w fun e w' => e = .returned (.bool (hasK g k)) ∧ Below w.heap.size w w' := by
  have hb0 : Below w.heap.size w (w.alloc (Obj.cells #[.int .i64 g, .int .i64 m, .int .i64 n] 60)) := (Below.refl _ _).alloc (Nat.le_refl _) _
  have HB := hid hb0
  clear hb0
  by_cases h1 : 1 ≤ k
  · by_cases h2 : k ≤ 12
    · have HR := hid (show hasK g k = true by simp [hasK, h1, h2])
      go_enter Tryd.func88, Tryd.ntmps88
      go_wp2_with fail
      go_ret
      exact ⟨ret_b HR.out.symm, HB.out⟩
    · have HR := hid (show hasK g k = (k == g) by simp [hasK, h2])
      have h3 : decide (k ≤ 12) = false := by simpa using h2
      go_enter Tryd.func88, Tryd.ntmps88
      go_wp2_with fail
      go_ret
      exact ⟨ret_b HR.out.symm, HB.out⟩
  · have HR := hid (show hasK g k = (k == g) by simp [hasK, h1])
    have h3 : decide (1 ≤ k) = false := by simpa using h1
    go_enter Tryd.func88, Tryd.ntmps88
    go_wp2_with fail
    go_ret
    exact ⟨ret_b HR.out.symm, HB.out⟩

end Go.Proofs.YtjpmlmdbldcbjaaDoor

namespace Go.Proofs.YtjpmlmdbldcbjaaDoor
open Go.ChangeShapes Go.WideShapes Go.ChangeAt Go.RowKit Go.Deep

/-- What the row lays. -/
def laid1 : List (String × DataW Unit) := [("loop.example/gradual/impl.termForms", Rows.laid_loop_example_gradual_impl_termForms)]

/-- The door's own heap meets the condition: three closed facts. -/
theorem door_met (os : Os) (args : Array Value) : laidMetH Tryd.prog laid1 ((World.doorLaid Tryd.prog 400 os).forCall (fun _ _ => 0) ⟨#[], args, []⟩).memory :=
  laidMetH_of_parts3 (fuel := 8) (laidMet_of_run' 8 (by kernel_rfl) (by kernel_rfl)) (by kernel_rfl) (by kernel_rfl)

theorem gForms : Tryd.prog.globalNamed "loop.example/gradual/impl.termForms" = some 0 := by kernel_rfl
theorem tForms : (Tryd.prog.globals[0]?).map (·.type) = some 92 := by kernel_rfl

theorem string_of_bytes {s : ByteArray} {l : List UInt8} (h : s.data.toList = l) : s = ⟨⟨l⟩⟩ := by
  obtain ⟨⟨l'⟩⟩ := s
  subst h
  rfl

/-- What the condition gives the walks. -/
theorem forms_of_laid {W : World} (h : laidMetH Tryd.prog laid1 W) : Forms W := by
  rw [MakeChecks.laidMetH_plain _ _ _ (by kernel_rfl)] at h
  obtain ⟨ps, ⟨g0, t0, cs0, f0, p0, q0, hg0, ht0, hv0, hd0, _, _⟩, _, _⟩ := h
  obtain rfl := Option.some.inj (gForms.symm.trans hg0)
  obtain rfl := Option.some.inj (tForms.symm.trans ht0)
  obtain ⟨xs, m1, rfl, hx1, hlen, hn, hel⟩ := DataW.trod_array Tryd.underlying92 hd0
  simp only [Prod.mk.injEq] at hx1
  have hD := hx1.1
  intro j hj
  have h0 := hel j hj
  have hlt : j < xs.length := by omega
  rw [List.getElem?_eq_getElem hlt] at h0
  obtain ⟨s, e1, e2, _⟩ := DataW.trod_string Tryd.underlying9 h0
  rw [Tryd.cellsStr] at e1
  have hc := World.var?_cell hg0 hv0 j
  have h1 : cs0[j]? = some (.string s) := by
    have := congrArg (fun l => l[0]?) e1
    simpa [List.getElem?_take, List.getElem?_drop] using this
  rw [h1] at hc
  rw [hc]
  have hxj : (xs.map (·.1))[j]? = some (.lit (.string s.data.toList)) := by
    rw [List.getElem?_map, List.getElem?_eq_getElem hlt, e2]
    rfl
  have hagg : xs.map (·.1) = [.lit (.string []), .lit (.string [110]), .lit (.string [100]), .lit (.string [84]), .lit (.string [70]), .lit (.string [33, 110, 58, 116, 46, 65]), .lit (.string [40, 65, 32, 66, 41]), .lit (.string [40, 65, 43, 66, 41]), .lit (.string [40, 65, 60, 66, 41]), .lit (.string [123, 65, 63, 66, 58, 67, 125]), .lit (.string [91, 65, 44, 66, 93]), .lit (.string [36, 65]), .lit (.string [37, 65]), .lit (.string [40, 65, 58, 116, 41]), .lit (.string [40, 65, 58, 115, 126, 116, 35, 108, 41])] := by
    simp only [Rows.laid_loop_example_gradual_impl_termForms, DataW.agg.injEq] at hD
    exact hD.symm
  rw [hagg] at hxj
  have hcase : j = 0 ∨ j = 1 ∨ j = 2 ∨ j = 3 ∨ j = 4 ∨ j = 5 ∨ j = 6 ∨ j = 7 ∨ j = 8 ∨ j = 9 ∨ j = 10 ∨ j = 11 ∨ j = 12 ∨ j = 13 ∨ j = 14 := by omega
  clear hc h1 e1 e2 h0 hagg hD hx1 hel
  rcases hcase with rfl | rfl | rfl | rfl | rfl | rfl | rfl | rfl | rfl | rfl | rfl | rfl | rfl | rfl | rfl <;>
    (simp only [List.getElem?_cons_zero, List.getElem?_cons_succ, Option.some.injEq, DataW.lit.injEq, Lit.string.injEq] at hxj; rw [string_of_bytes hxj.symm]; rfl)
end Go.Proofs.YtjpmlmdbldcbjaaDoor

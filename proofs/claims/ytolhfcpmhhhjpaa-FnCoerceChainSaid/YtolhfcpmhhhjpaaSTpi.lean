/- The program's leads. -/
import Derived.Deep.RegionLaw
import Derived.Test.YtolhfcpmhhhjpaaSG3
import Derived.Test.YtolhfcpmhhhjpaaSG1
namespace Go.Proofs.Ytolhfcpmhhhjpaa
open Go.RowKit

def LdC (n : Nat) : Prop := ∀ (c : Co) (f t : Ty) (vc vf vt : Value) (fc ff ft : List Nat) (w : World), shpK n c = true → shp 4 f = true → shp 4 t = true → c.At w vc fc → f.At w vf ff → t.At w vt ft →
  Calls Try.prog 51 #[vc, vf, vt] w fun e w' => e = .returned (.bool (typC n c f t)) ∧ Below w.heap.size w w'

set_option maxRecDepth 100000 in
set_option maxHeartbeats 1000000 in
theorem leads_id (n : Nat) (g l : Int) (f t : Ty) (vc vf vt : Value) (fc ff ft : List Nat) (w : World) (hatc : (Co.mk 1 g l []).At w vc fc) (hatf : f.At w vf ff) (hatt : t.At w vt ft) :
    Calls Try.prog 51 #[vc, vf, vt] w fun e w' => e = .returned (.bool (typC (n + 1) (.mk 1 g l []) f t)) ∧ Below w.heap.size w w' := by
  obtain ⟨sc, rfl, hsc⟩ := Co.at_mk.1 hatc
  obtain ⟨ac, cc, rfl⟩ := hsc.shape
  simp only [List.length_nil]
  obtain ⟨kf, fs, rfl⟩ := f.shape
  obtain ⟨kt, ts, rfl⟩ := t.shape
  obtain ⟨sf, rfl, hsf⟩ := Ty.at_mk.1 hatf
  obtain ⟨st, rfl, hst⟩ := Ty.at_mk.1 hatt
  obtain ⟨af, cf, rfl⟩ := hsf.shape
  obtain ⟨at', ct, rfl⟩ := hst.shape
  have HT := hid (show typC (n + 1) (.mk 1 g l []) (.mk kf fs) (.mk kt ts) = (kf == g && kt == g) by simp [typC, kindT])
  generalize fs.length = nf at *
  generalize ts.length = nt at *
  have hb0 : Below w.heap.size w (((w.alloc (Obj.cells #[.int .i64 1, .int .i64 g, .int .i64 l, .slice ac 0 cc] 30)).alloc (Obj.cells #[.int .i64 kf, .slice af nf cf] 25)).alloc (Obj.cells #[.int .i64 kt, .slice at' nt ct] 25)) := (((Below.refl _ _).alloc (Nat.le_refl _) _).alloc (by simp) _).alloc (by simp; omega) _
  clear hatc hatf hatt hsc hsf hst
  by_cases hq : kf = g
  case neg =>
    have q1 : (kf == g) = false := by simpa using hq
    rw [q1, Bool.false_and] at HT
    go_enter Try.func51, Try.ntmps51
    go_wp2_with fail
    go_ret
    exact ⟨ret_b HT.out.symm, hb0⟩
  have q1 : (kf == g) = true := by simpa using hq
  rw [q1, Bool.true_and] at HT
  clear hq
  go_enter Try.func51, Try.ntmps51
  go_wp2_with fail
  go_ret
  exact ⟨ret_b HT.out.symm, hb0⟩

set_option maxRecDepth 100000 in
set_option maxHeartbeats 1000000 in
theorem leads_fail (n : Nat) (g l : Int) (f t : Ty) (vc vf vt : Value) (fc ff ft : List Nat) (w : World) (hatc : (Co.mk 6 g l []).At w vc fc) (hatf : f.At w vf ff) (hatt : t.At w vt ft) :
    Calls Try.prog 51 #[vc, vf, vt] w fun e w' => e = .returned (.bool (typC (n + 1) (.mk 6 g l []) f t)) ∧ Below w.heap.size w w' := by
  obtain ⟨sc, rfl, hsc⟩ := Co.at_mk.1 hatc
  obtain ⟨ac, cc, rfl⟩ := hsc.shape
  simp only [List.length_nil]
  obtain ⟨kf, fs, rfl⟩ := f.shape
  obtain ⟨kt, ts, rfl⟩ := t.shape
  obtain ⟨sf, rfl, hsf⟩ := Ty.at_mk.1 hatf
  obtain ⟨st, rfl, hst⟩ := Ty.at_mk.1 hatt
  obtain ⟨af, cf, rfl⟩ := hsf.shape
  obtain ⟨at', ct, rfl⟩ := hst.shape
  have HT := hid (show typC (n + 1) (.mk 6 g l []) (.mk kf fs) (.mk kt ts) = (kf == g) by simp [typC, kindT])
  generalize fs.length = nf at *
  generalize ts.length = nt at *
  have hb0 : Below w.heap.size w (((w.alloc (Obj.cells #[.int .i64 6, .int .i64 g, .int .i64 l, .slice ac 0 cc] 30)).alloc (Obj.cells #[.int .i64 kf, .slice af nf cf] 25)).alloc (Obj.cells #[.int .i64 kt, .slice at' nt ct] 25)) := (((Below.refl _ _).alloc (Nat.le_refl _) _).alloc (by simp) _).alloc (by simp; omega) _
  clear hatc hatf hatt hsc hsf hst
  go_enter Try.func51, Try.ntmps51
  go_wp2_with fail
  go_ret
  exact ⟨ret_b HT.out.symm, hb0⟩

set_option maxRecDepth 100000 in
set_option maxHeartbeats 4000000 in
theorem leads_two2 (n : Nat) (ih : LdC n) (a b : Co) (f t : Ty) (vc vf vt : Value) (fc ff ft : List Nat) (w : World) (hsa : shpK n a = true) (hsb : shpK n b = true) (hf4 : shp 4 f = true) (ht4 : shp 4 t = true) (hatc : (Co.mk 2 0 0 [a, b]).At w vc fc) (hatf : f.At w vf ff) (hatt : t.At w vt ft) :
    Calls Try.prog 51 #[vc, vf, vt] w fun e w' => e = .returned (.bool (typC (n + 1) (.mk 2 0 0 [a, b]) f t)) ∧ Below w.heap.size w w' := by
  obtain ⟨sc, rfl, hsc⟩ := Co.at_mk.1 hatc
  obtain ⟨bc, oc, cc, ka, ga, la, na, aa, ca, kb, gb, lb, nb, ab, cb, fa, fb, rfl, hbc, d0, d1, d2, d3, e0, e1, e2, e3, hA, hB, _, hcc⟩ := hsc.two
  obtain ⟨kf, fs, rfl⟩ := f.shape
  obtain ⟨kt, ts, rfl⟩ := t.shape
  obtain ⟨sf, rfl, hsf⟩ := Ty.at_mk.1 hatf
  obtain ⟨st, rfl, hst⟩ := Ty.at_mk.1 hatt
  by_cases hk : kf = 4
  case neg =>
    have HT := hid (show typC (n + 1) (.mk 2 0 0 [a, b]) (.mk kf fs) (.mk kt ts) = false by
      have e1 : (kf == 4) = false := by simpa using hk
      simp only [typC]
      simp
      split <;> simp [kindT, hk])
    obtain ⟨af, cf, rfl⟩ := hsf.shape
    obtain ⟨at', ct, rfl⟩ := hst.shape
    generalize fs.length = nf at *
    generalize ts.length = nt at *
    have q1 : (kf == 4) = false := by simpa using hk
    have hb0 : Below w.heap.size w (((w.alloc (Obj.cells #[.int .i64 2, .int .i64 0, .int .i64 0, .slice (some ⟨bc, oc, none⟩) 2 cc] 30)).alloc (Obj.cells #[.int .i64 kf, .slice af nf cf] 25)).alloc (Obj.cells #[.int .i64 kt, .slice at' nt ct] 25)) := (((Below.refl _ _).alloc (Nat.le_refl _) _).alloc (by simp) _).alloc (by simp; omega) _
    obtain ⟨bC, bF, bT⟩ := three3 (Below.refl ((((w.alloc (Obj.cells #[.int .i64 2, .int .i64 0, .int .i64 0, .slice (some ⟨bc, oc, none⟩) 2 cc] 30)).alloc (Obj.cells #[.int .i64 kf, .slice af nf cf] 25)).alloc (Obj.cells #[.int .i64 kt, .slice at' nt ct] 25))).heap.size (((w.alloc (Obj.cells #[.int .i64 2, .int .i64 0, .int .i64 0, .slice (some ⟨bc, oc, none⟩) 2 cc] 30)).alloc (Obj.cells #[.int .i64 kf, .slice af nf cf] 25)).alloc (Obj.cells #[.int .i64 kt, .slice at' nt ct] 25)))
    have xC0 : ((((w.alloc (Obj.cells #[.int .i64 2, .int .i64 0, .int .i64 0, .slice (some ⟨bc, oc, none⟩) 2 cc] 30)).alloc (Obj.cells #[.int .i64 kf, .slice af nf cf] 25)).alloc (Obj.cells #[.int .i64 kt, .slice at' nt ct] 25))).cell? ⟨w.heap.size, 0, none⟩ = some (.int .i64 2) := by rw [cell_of_block bC]; rfl
    have xC1 : ((((w.alloc (Obj.cells #[.int .i64 2, .int .i64 0, .int .i64 0, .slice (some ⟨bc, oc, none⟩) 2 cc] 30)).alloc (Obj.cells #[.int .i64 kf, .slice af nf cf] 25)).alloc (Obj.cells #[.int .i64 kt, .slice at' nt ct] 25))).cell? ⟨w.heap.size, 1, none⟩ = some (.int .i64 0) := by rw [cell_of_block bC]; rfl
    have xC2 : ((((w.alloc (Obj.cells #[.int .i64 2, .int .i64 0, .int .i64 0, .slice (some ⟨bc, oc, none⟩) 2 cc] 30)).alloc (Obj.cells #[.int .i64 kf, .slice af nf cf] 25)).alloc (Obj.cells #[.int .i64 kt, .slice at' nt ct] 25))).cell? ⟨w.heap.size, 2, none⟩ = some (.int .i64 0) := by rw [cell_of_block bC]; rfl
    have xC3 : ((((w.alloc (Obj.cells #[.int .i64 2, .int .i64 0, .int .i64 0, .slice (some ⟨bc, oc, none⟩) 2 cc] 30)).alloc (Obj.cells #[.int .i64 kf, .slice af nf cf] 25)).alloc (Obj.cells #[.int .i64 kt, .slice at' nt ct] 25))).cell? ⟨w.heap.size, 3, none⟩ = some (.slice (some ⟨bc, oc, none⟩) 2 cc) := by rw [cell_of_block bC]; rfl
    have xF0 : ((((w.alloc (Obj.cells #[.int .i64 2, .int .i64 0, .int .i64 0, .slice (some ⟨bc, oc, none⟩) 2 cc] 30)).alloc (Obj.cells #[.int .i64 kf, .slice af nf cf] 25)).alloc (Obj.cells #[.int .i64 kt, .slice at' nt ct] 25))).cell? ⟨w.heap.size + 1, 0, none⟩ = some (.int .i64 kf) := by rw [cell_of_block bF]; rfl
    have xF1 : ((((w.alloc (Obj.cells #[.int .i64 2, .int .i64 0, .int .i64 0, .slice (some ⟨bc, oc, none⟩) 2 cc] 30)).alloc (Obj.cells #[.int .i64 kf, .slice af nf cf] 25)).alloc (Obj.cells #[.int .i64 kt, .slice at' nt ct] 25))).cell? ⟨w.heap.size + 1, 1, none⟩ = some (.slice af nf cf) := by rw [cell_of_block bF]; rfl
    have xT0 : ((((w.alloc (Obj.cells #[.int .i64 2, .int .i64 0, .int .i64 0, .slice (some ⟨bc, oc, none⟩) 2 cc] 30)).alloc (Obj.cells #[.int .i64 kf, .slice af nf cf] 25)).alloc (Obj.cells #[.int .i64 kt, .slice at' nt ct] 25))).cell? ⟨w.heap.size + 1 + 1, 0, none⟩ = some (.int .i64 kt) := by rw [cell_of_block bT]; rfl
    have xT1 : ((((w.alloc (Obj.cells #[.int .i64 2, .int .i64 0, .int .i64 0, .slice (some ⟨bc, oc, none⟩) 2 cc] 30)).alloc (Obj.cells #[.int .i64 kf, .slice af nf cf] 25)).alloc (Obj.cells #[.int .i64 kt, .slice at' nt ct] 25))).cell? ⟨w.heap.size + 1 + 1, 1, none⟩ = some (.slice at' nt ct) := by rw [cell_of_block bT]; rfl
    clear bC bF bT
    clear hatc hatf hatt hsc hsf hst hA hB d0 d1 d2 d3 e0 e1 e2 e3 ih
    go_enter Try.func51, Try.ntmps51
    go_wp2_with fail
    refine wp_region_held_drew (S := (fun w' => Below ((((w.alloc (Obj.cells #[.int .i64 2, .int .i64 0, .int .i64 0, .slice (some ⟨bc, oc, none⟩) 2 cc] 30)).alloc (Obj.cells #[.int .i64 kf, .slice af nf cf] 25)).alloc (Obj.cells #[.int .i64 kt, .slice at' nt ct] 25))).heap.size (((w.alloc (Obj.cells #[.int .i64 2, .int .i64 0, .int .i64 0, .slice (some ⟨bc, oc, none⟩) 2 cc] 30)).alloc (Obj.cells #[.int .i64 kf, .slice af nf cf] 25)).alloc (Obj.cells #[.int .i64 kt, .slice at' nt ct] 25)) w' ∧ w'.cell? ⟨w.heap.size, 0, none⟩ = some (.int .i64 2) ∧ w'.cell? ⟨w.heap.size, 1, none⟩ = some (.int .i64 0) ∧ w'.cell? ⟨w.heap.size, 2, none⟩ = some (.int .i64 0) ∧ w'.cell? ⟨w.heap.size, 3, none⟩ = some (.slice (some ⟨bc, oc, none⟩) 2 cc) ∧ w'.cell? ⟨w.heap.size + 1, 0, none⟩ = some (.int .i64 kf) ∧ w'.cell? ⟨w.heap.size + 1, 1, none⟩ = some (.slice af nf cf) ∧ w'.cell? ⟨w.heap.size + 1 + 1, 0, none⟩ = some (.int .i64 kt) ∧ w'.cell? ⟨w.heap.size + 1 + 1, 1, none⟩ = some (.slice at' nt ct))) (by kernel_rfl) ?_ (fun hS0 => ?_)
    · (refine (fun hB => ⟨hB, cell_keep xC0 hB, cell_keep xC1 hB, cell_keep xC2 hB, cell_keep xC3 hB, cell_keep xF0 hB, cell_keep xF1 hB, cell_keep xT0 hB, cell_keep xT1 hB⟩ : Below ((((w.alloc (Obj.cells #[.int .i64 2, .int .i64 0, .int .i64 0, .slice (some ⟨bc, oc, none⟩) 2 cc] 30)).alloc (Obj.cells #[.int .i64 kf, .slice af nf cf] 25)).alloc (Obj.cells #[.int .i64 kt, .slice at' nt ct] 25))).heap.size (((w.alloc (Obj.cells #[.int .i64 2, .int .i64 0, .int .i64 0, .slice (some ⟨bc, oc, none⟩) 2 cc] 30)).alloc (Obj.cells #[.int .i64 kf, .slice af nf cf] 25)).alloc (Obj.cells #[.int .i64 kt, .slice at' nt ct] 25)) _ → _) ?_; exact below_drew _)
    refine regTake (i := 0) (v := ?vn1_0) rfl (by kernel_rfl) (by kernel_rfl) (by kernel_rfl) (fun _ _ _ h => h) (Or.inl ⟨by rfl, ?hyn1_0⟩) (by assumption) ?_
    case hyn1_0 => (intro w hSw; (try dsimp only at hSw); go_simp; (try with_reducible rfl))
    try simp only [Act.put, List.setIfInBounds_toArray, List.set_cons_zero, List.set_cons_succ]
    refine regTake (i := 1) (v := ?vn1_1) rfl (by kernel_rfl) (by kernel_rfl) (by kernel_rfl) (fun _ _ _ h => h) (Or.inl ⟨by rfl, ?hyn1_1⟩) (by assumption) ?_
    case hyn1_1 => (intro w hSw; (try dsimp only at hSw); go_simp; (try with_reducible rfl))
    try simp only [Act.put, List.setIfInBounds_toArray, List.set_cons_zero, List.set_cons_succ]
    refine regTake (i := 2) (v := ?vn1_2) rfl (by kernel_rfl) (by kernel_rfl) (by kernel_rfl) (fun _ _ _ h => h) (Or.inl ⟨by rfl, ?hyn1_2⟩) (by assumption) ?_
    case hyn1_2 => (intro w hSw; (try dsimp only at hSw); go_simp; (try with_reducible rfl))
    try simp only [Act.put, List.setIfInBounds_toArray, List.set_cons_zero, List.set_cons_succ]
    refine regTake (i := 3) (v := ?vn1_3) rfl (by kernel_rfl) (by kernel_rfl) (by kernel_rfl) (fun _ _ _ h => h) (Or.inl ⟨by rfl, ?hyn1_3⟩) (by assumption) ?_
    case hyn1_3 => (intro w hSw; (try dsimp only at hSw); go_simp; (try with_reducible rfl))
    try simp only [Act.put, List.setIfInBounds_toArray, List.set_cons_zero, List.set_cons_succ]
    refine regTake (i := 4) (v := undef) rfl (by kernel_rfl) (by kernel_rfl) (by kernel_rfl) (fun _ _ _ h => h) (Or.inr ⟨by rfl, rfl⟩) (by assumption) ?_
    try simp only [Act.put, List.setIfInBounds_toArray, List.set_cons_zero, List.set_cons_succ]
    refine regTake (i := 5) (v := undef) rfl (by kernel_rfl) (by kernel_rfl) (by kernel_rfl) (fun _ _ _ h => h) (Or.inr ⟨by rfl, rfl⟩) (by assumption) ?_
    try simp only [Act.put, List.setIfInBounds_toArray, List.set_cons_zero, List.set_cons_succ]
    refine regTake (i := 6) (v := undef) rfl (by kernel_rfl) (by kernel_rfl) (by kernel_rfl) (fun _ _ _ h => h) (Or.inr ⟨by rfl, rfl⟩) (by assumption) ?_
    try simp only [Act.put, List.setIfInBounds_toArray, List.set_cons_zero, List.set_cons_succ]
    refine regTake (i := 7) (v := .bool false) rfl (by kernel_rfl) (by kernel_rfl) (by kernel_rfl) (fun _ _ _ h => h) (Or.inl ⟨by rfl, ?hyn1_7⟩) (by assumption) ?_
    case hyn1_7 => (intro w hSw; (try dsimp only at hSw); go_simp; (try with_reducible rfl))
    try simp only [Act.put, List.setIfInBounds_toArray, List.set_cons_zero, List.set_cons_succ]
    refine regTake (i := 8) (v := ?vn1_8) rfl (by kernel_rfl) (by kernel_rfl) (by kernel_rfl) (fun _ _ _ h => h) (Or.inl ⟨by rfl, ?hyn1_8⟩) (by assumption) ?_
    case hyn1_8 => (intro w hSw; (try dsimp only at hSw); go_simp; (try with_reducible rfl))
    try simp only [Act.put, List.setIfInBounds_toArray, List.set_cons_zero, List.set_cons_succ]
    refine regTake (i := 9) (v := undef) rfl (by kernel_rfl) (by kernel_rfl) (by kernel_rfl) (fun _ _ _ h => h) (Or.inr ⟨by rfl, rfl⟩) (by assumption) ?_
    try simp only [Act.put, List.setIfInBounds_toArray, List.set_cons_zero, List.set_cons_succ]
    refine regTake (i := 10) (v := undef) rfl (by kernel_rfl) (by kernel_rfl) (by kernel_rfl) (fun _ _ _ h => h) (Or.inr ⟨by rfl, rfl⟩) (by assumption) ?_
    try simp only [Act.put, List.setIfInBounds_toArray, List.set_cons_zero, List.set_cons_succ]
    refine regTake (i := 11) (v := undef) rfl (by kernel_rfl) (by kernel_rfl) (by kernel_rfl) (fun _ _ _ h => h) (Or.inr ⟨by rfl, rfl⟩) (by assumption) ?_
    try simp only [Act.put, List.setIfInBounds_toArray, List.set_cons_zero, List.set_cons_succ]
    refine regTake (i := 12) (v := undef) rfl (by kernel_rfl) (by kernel_rfl) (by kernel_rfl) (fun _ _ _ h => h) (Or.inr ⟨by rfl, rfl⟩) (by assumption) ?_
    try simp only [Act.put, List.setIfInBounds_toArray, List.set_cons_zero, List.set_cons_succ]
    refine regTake (i := 13) (v := undef) rfl (by kernel_rfl) (by kernel_rfl) (by kernel_rfl) (fun _ _ _ h => h) (Or.inr ⟨by rfl, rfl⟩) (by assumption) ?_
    try simp only [Act.put, List.setIfInBounds_toArray, List.set_cons_zero, List.set_cons_succ]
    refine regTake (i := 14) (v := undef) rfl (by kernel_rfl) (by kernel_rfl) (by kernel_rfl) (fun _ _ _ h => h) (Or.inr ⟨by rfl, rfl⟩) (by assumption) ?_
    try simp only [Act.put, List.setIfInBounds_toArray, List.set_cons_zero, List.set_cons_succ]
    refine regTake (i := 15) (v := undef) rfl (by kernel_rfl) (by kernel_rfl) (by kernel_rfl) (fun _ _ _ h => h) (Or.inr ⟨by rfl, rfl⟩) (by assumption) ?_
    try simp only [Act.put, List.setIfInBounds_toArray, List.set_cons_zero, List.set_cons_succ]
    refine regTake (i := 16) (v := undef) rfl (by kernel_rfl) (by kernel_rfl) (by kernel_rfl) (fun _ _ _ h => h) (Or.inr ⟨by rfl, rfl⟩) (by assumption) ?_
    try simp only [Act.put, List.setIfInBounds_toArray, List.set_cons_zero, List.set_cons_succ]
    refine regTake (i := 17) (v := undef) rfl (by kernel_rfl) (by kernel_rfl) (by kernel_rfl) (fun _ _ _ h => h) (Or.inr ⟨by rfl, rfl⟩) (by assumption) ?_
    try simp only [Act.put, List.setIfInBounds_toArray, List.set_cons_zero, List.set_cons_succ]
    refine regTake (i := 18) (v := undef) rfl (by kernel_rfl) (by kernel_rfl) (by kernel_rfl) (fun _ _ _ h => h) (Or.inr ⟨by rfl, rfl⟩) (by assumption) ?_
    try simp only [Act.put, List.setIfInBounds_toArray, List.set_cons_zero, List.set_cons_succ]
    refine regTake (i := 19) (v := undef) rfl (by kernel_rfl) (by kernel_rfl) (by kernel_rfl) (fun _ _ _ h => h) (Or.inr ⟨by rfl, rfl⟩) (by assumption) ?_
    try simp only [Act.put, List.setIfInBounds_toArray, List.set_cons_zero, List.set_cons_succ]
    refine regTake (i := 20) (v := undef) rfl (by kernel_rfl) (by kernel_rfl) (by kernel_rfl) (fun _ _ _ h => h) (Or.inr ⟨by rfl, rfl⟩) (by assumption) ?_
    try simp only [Act.put, List.setIfInBounds_toArray, List.set_cons_zero, List.set_cons_succ]
    refine regTake (i := 21) (v := undef) rfl (by kernel_rfl) (by kernel_rfl) (by kernel_rfl) (fun _ _ _ h => h) (Or.inr ⟨by rfl, rfl⟩) (by assumption) ?_
    try simp only [Act.put, List.setIfInBounds_toArray, List.set_cons_zero, List.set_cons_succ]
    refine regTake (i := 22) (v := .bool false) rfl (by kernel_rfl) (by kernel_rfl) (by kernel_rfl) (fun _ _ _ h => h) (Or.inl ⟨by rfl, ?hyn1_22⟩) (by assumption) ?_
    case hyn1_22 => (intro w hSw; (try dsimp only at hSw); go_simp; (try with_reducible rfl))
    try simp only [Act.put, List.setIfInBounds_toArray, List.set_cons_zero, List.set_cons_succ]
    refine regTake (i := 23) (v := ?vn1_23) rfl (by kernel_rfl) (by kernel_rfl) (by kernel_rfl) (fun _ _ _ h => h) (Or.inl ⟨by rfl, ?hyn1_23⟩) (by assumption) ?_
    case hyn1_23 => (intro w hSw; (try dsimp only at hSw); go_simp; (try with_reducible rfl))
    try simp only [Act.put, List.setIfInBounds_toArray, List.set_cons_zero, List.set_cons_succ]
    refine regTake (i := 24) (v := undef) rfl (by kernel_rfl) (by kernel_rfl) (by kernel_rfl) (fun _ _ _ h => h) (Or.inr ⟨by rfl, rfl⟩) (by assumption) ?_
    try simp only [Act.put, List.setIfInBounds_toArray, List.set_cons_zero, List.set_cons_succ]
    refine regTake (i := 25) (v := undef) rfl (by kernel_rfl) (by kernel_rfl) (by kernel_rfl) (fun _ _ _ h => h) (Or.inr ⟨by rfl, rfl⟩) (by assumption) ?_
    try simp only [Act.put, List.setIfInBounds_toArray, List.set_cons_zero, List.set_cons_succ]
    refine regTake (i := 26) (v := undef) rfl (by kernel_rfl) (by kernel_rfl) (by kernel_rfl) (fun _ _ _ h => h) (Or.inr ⟨by rfl, rfl⟩) (by assumption) ?_
    try simp only [Act.put, List.setIfInBounds_toArray, List.set_cons_zero, List.set_cons_succ]
    refine regTake (i := 27) (v := undef) rfl (by kernel_rfl) (by kernel_rfl) (by kernel_rfl) (fun _ _ _ h => h) (Or.inr ⟨by rfl, rfl⟩) (by assumption) ?_
    try simp only [Act.put, List.setIfInBounds_toArray, List.set_cons_zero, List.set_cons_succ]
    refine regTake (i := 28) (v := undef) rfl (by kernel_rfl) (by kernel_rfl) (by kernel_rfl) (fun _ _ _ h => h) (Or.inr ⟨by rfl, rfl⟩) (by assumption) ?_
    try simp only [Act.put, List.setIfInBounds_toArray, List.set_cons_zero, List.set_cons_succ]
    refine regTake (i := 29) (v := undef) rfl (by kernel_rfl) (by kernel_rfl) (by kernel_rfl) (fun _ _ _ h => h) (Or.inr ⟨by rfl, rfl⟩) (by assumption) ?_
    try simp only [Act.put, List.setIfInBounds_toArray, List.set_cons_zero, List.set_cons_succ]
    refine regTake (i := 30) (v := undef) rfl (by kernel_rfl) (by kernel_rfl) (by kernel_rfl) (fun _ _ _ h => h) (Or.inr ⟨by rfl, rfl⟩) (by assumption) ?_
    try simp only [Act.put, List.setIfInBounds_toArray, List.set_cons_zero, List.set_cons_succ]
    refine regTake (i := 31) (v := undef) rfl (by kernel_rfl) (by kernel_rfl) (by kernel_rfl) (fun _ _ _ h => h) (Or.inr ⟨by rfl, rfl⟩) (by assumption) ?_
    try simp only [Act.put, List.setIfInBounds_toArray, List.set_cons_zero, List.set_cons_succ]
    refine regTake (i := 32) (v := undef) rfl (by kernel_rfl) (by kernel_rfl) (by kernel_rfl) (fun _ _ _ h => h) (Or.inr ⟨by rfl, rfl⟩) (by assumption) ?_
    try simp only [Act.put, List.setIfInBounds_toArray, List.set_cons_zero, List.set_cons_succ]
    refine regTake (i := 33) (v := undef) rfl (by kernel_rfl) (by kernel_rfl) (by kernel_rfl) (fun _ _ _ h => h) (Or.inr ⟨by rfl, rfl⟩) (by assumption) ?_
    try simp only [Act.put, List.setIfInBounds_toArray, List.set_cons_zero, List.set_cons_succ]
    refine regTake (i := 34) (v := undef) rfl (by kernel_rfl) (by kernel_rfl) (by kernel_rfl) (fun _ _ _ h => h) (Or.inr ⟨by rfl, rfl⟩) (by assumption) ?_
    try simp only [Act.put, List.setIfInBounds_toArray, List.set_cons_zero, List.set_cons_succ]
    refine regTake (i := 35) (v := undef) rfl (by kernel_rfl) (by kernel_rfl) (by kernel_rfl) (fun _ _ _ h => h) (Or.inr ⟨by rfl, rfl⟩) (by assumption) ?_
    try simp only [Act.put, List.setIfInBounds_toArray, List.set_cons_zero, List.set_cons_succ]
    refine regTake (i := 36) (v := undef) rfl (by kernel_rfl) (by kernel_rfl) (by kernel_rfl) (fun _ _ _ h => h) (Or.inr ⟨by rfl, rfl⟩) (by assumption) ?_
    try simp only [Act.put, List.setIfInBounds_toArray, List.set_cons_zero, List.set_cons_succ]
    refine regTake (i := 37) (v := .bool false) rfl (by kernel_rfl) (by kernel_rfl) (by kernel_rfl) (fun _ _ _ h => h) (Or.inl ⟨by rfl, ?hyn1_37⟩) (by assumption) ?_
    case hyn1_37 => (intro w hSw; (try dsimp only at hSw); go_simp; (try with_reducible rfl))
    try simp only [Act.put, List.setIfInBounds_toArray, List.set_cons_zero, List.set_cons_succ]
    refine regTake (i := 38) (v := ?vn1_38) rfl (by kernel_rfl) (by kernel_rfl) (by kernel_rfl) (fun _ _ _ h => h) (Or.inl ⟨by rfl, ?hyn1_38⟩) (by assumption) ?_
    case hyn1_38 => (intro w hSw; (try dsimp only at hSw); go_simp; (try with_reducible rfl))
    try simp only [Act.put, List.setIfInBounds_toArray, List.set_cons_zero, List.set_cons_succ]
    refine wpAnyH_done (by kernel_rfl) ?_ _
    go_wp2_with fail
    go_ret
    exact ⟨ret_b HT.out.symm, below_trans hb0 (below_drew _)⟩
  by_cases hk2 : kt = 4
  case neg =>
    have HT := hid (show typC (n + 1) (.mk 2 0 0 [a, b]) (.mk kf fs) (.mk kt ts) = false by
      simp only [typC]
      simp
      split <;> simp [kindT, hk2])
    obtain ⟨af, cf, rfl⟩ := hsf.shape
    obtain ⟨at', ct, rfl⟩ := hst.shape
    generalize fs.length = nf at *
    generalize ts.length = nt at *
    have q1 : (kf == 4) = true := by simpa using hk
    have q2 : (kt == 4) = false := by simpa using hk2
    have hb0 : Below w.heap.size w (((w.alloc (Obj.cells #[.int .i64 2, .int .i64 0, .int .i64 0, .slice (some ⟨bc, oc, none⟩) 2 cc] 30)).alloc (Obj.cells #[.int .i64 kf, .slice af nf cf] 25)).alloc (Obj.cells #[.int .i64 kt, .slice at' nt ct] 25)) := (((Below.refl _ _).alloc (Nat.le_refl _) _).alloc (by simp) _).alloc (by simp; omega) _
    obtain ⟨bC, bF, bT⟩ := three3 (Below.refl ((((w.alloc (Obj.cells #[.int .i64 2, .int .i64 0, .int .i64 0, .slice (some ⟨bc, oc, none⟩) 2 cc] 30)).alloc (Obj.cells #[.int .i64 kf, .slice af nf cf] 25)).alloc (Obj.cells #[.int .i64 kt, .slice at' nt ct] 25))).heap.size (((w.alloc (Obj.cells #[.int .i64 2, .int .i64 0, .int .i64 0, .slice (some ⟨bc, oc, none⟩) 2 cc] 30)).alloc (Obj.cells #[.int .i64 kf, .slice af nf cf] 25)).alloc (Obj.cells #[.int .i64 kt, .slice at' nt ct] 25)))
    have xC0 : ((((w.alloc (Obj.cells #[.int .i64 2, .int .i64 0, .int .i64 0, .slice (some ⟨bc, oc, none⟩) 2 cc] 30)).alloc (Obj.cells #[.int .i64 kf, .slice af nf cf] 25)).alloc (Obj.cells #[.int .i64 kt, .slice at' nt ct] 25))).cell? ⟨w.heap.size, 0, none⟩ = some (.int .i64 2) := by rw [cell_of_block bC]; rfl
    have xC1 : ((((w.alloc (Obj.cells #[.int .i64 2, .int .i64 0, .int .i64 0, .slice (some ⟨bc, oc, none⟩) 2 cc] 30)).alloc (Obj.cells #[.int .i64 kf, .slice af nf cf] 25)).alloc (Obj.cells #[.int .i64 kt, .slice at' nt ct] 25))).cell? ⟨w.heap.size, 1, none⟩ = some (.int .i64 0) := by rw [cell_of_block bC]; rfl
    have xC2 : ((((w.alloc (Obj.cells #[.int .i64 2, .int .i64 0, .int .i64 0, .slice (some ⟨bc, oc, none⟩) 2 cc] 30)).alloc (Obj.cells #[.int .i64 kf, .slice af nf cf] 25)).alloc (Obj.cells #[.int .i64 kt, .slice at' nt ct] 25))).cell? ⟨w.heap.size, 2, none⟩ = some (.int .i64 0) := by rw [cell_of_block bC]; rfl
    have xC3 : ((((w.alloc (Obj.cells #[.int .i64 2, .int .i64 0, .int .i64 0, .slice (some ⟨bc, oc, none⟩) 2 cc] 30)).alloc (Obj.cells #[.int .i64 kf, .slice af nf cf] 25)).alloc (Obj.cells #[.int .i64 kt, .slice at' nt ct] 25))).cell? ⟨w.heap.size, 3, none⟩ = some (.slice (some ⟨bc, oc, none⟩) 2 cc) := by rw [cell_of_block bC]; rfl
    have xF0 : ((((w.alloc (Obj.cells #[.int .i64 2, .int .i64 0, .int .i64 0, .slice (some ⟨bc, oc, none⟩) 2 cc] 30)).alloc (Obj.cells #[.int .i64 kf, .slice af nf cf] 25)).alloc (Obj.cells #[.int .i64 kt, .slice at' nt ct] 25))).cell? ⟨w.heap.size + 1, 0, none⟩ = some (.int .i64 kf) := by rw [cell_of_block bF]; rfl
    have xF1 : ((((w.alloc (Obj.cells #[.int .i64 2, .int .i64 0, .int .i64 0, .slice (some ⟨bc, oc, none⟩) 2 cc] 30)).alloc (Obj.cells #[.int .i64 kf, .slice af nf cf] 25)).alloc (Obj.cells #[.int .i64 kt, .slice at' nt ct] 25))).cell? ⟨w.heap.size + 1, 1, none⟩ = some (.slice af nf cf) := by rw [cell_of_block bF]; rfl
    have xT0 : ((((w.alloc (Obj.cells #[.int .i64 2, .int .i64 0, .int .i64 0, .slice (some ⟨bc, oc, none⟩) 2 cc] 30)).alloc (Obj.cells #[.int .i64 kf, .slice af nf cf] 25)).alloc (Obj.cells #[.int .i64 kt, .slice at' nt ct] 25))).cell? ⟨w.heap.size + 1 + 1, 0, none⟩ = some (.int .i64 kt) := by rw [cell_of_block bT]; rfl
    have xT1 : ((((w.alloc (Obj.cells #[.int .i64 2, .int .i64 0, .int .i64 0, .slice (some ⟨bc, oc, none⟩) 2 cc] 30)).alloc (Obj.cells #[.int .i64 kf, .slice af nf cf] 25)).alloc (Obj.cells #[.int .i64 kt, .slice at' nt ct] 25))).cell? ⟨w.heap.size + 1 + 1, 1, none⟩ = some (.slice at' nt ct) := by rw [cell_of_block bT]; rfl
    clear bC bF bT
    clear hatc hatf hatt hsc hsf hst hA hB d0 d1 d2 d3 e0 e1 e2 e3 ih hk
    go_enter Try.func51, Try.ntmps51
    go_wp2_with fail
    refine wp_region_held_drew (S := (fun w' => Below ((((w.alloc (Obj.cells #[.int .i64 2, .int .i64 0, .int .i64 0, .slice (some ⟨bc, oc, none⟩) 2 cc] 30)).alloc (Obj.cells #[.int .i64 kf, .slice af nf cf] 25)).alloc (Obj.cells #[.int .i64 kt, .slice at' nt ct] 25))).heap.size (((w.alloc (Obj.cells #[.int .i64 2, .int .i64 0, .int .i64 0, .slice (some ⟨bc, oc, none⟩) 2 cc] 30)).alloc (Obj.cells #[.int .i64 kf, .slice af nf cf] 25)).alloc (Obj.cells #[.int .i64 kt, .slice at' nt ct] 25)) w' ∧ w'.cell? ⟨w.heap.size, 0, none⟩ = some (.int .i64 2) ∧ w'.cell? ⟨w.heap.size, 1, none⟩ = some (.int .i64 0) ∧ w'.cell? ⟨w.heap.size, 2, none⟩ = some (.int .i64 0) ∧ w'.cell? ⟨w.heap.size, 3, none⟩ = some (.slice (some ⟨bc, oc, none⟩) 2 cc) ∧ w'.cell? ⟨w.heap.size + 1, 0, none⟩ = some (.int .i64 kf) ∧ w'.cell? ⟨w.heap.size + 1, 1, none⟩ = some (.slice af nf cf) ∧ w'.cell? ⟨w.heap.size + 1 + 1, 0, none⟩ = some (.int .i64 kt) ∧ w'.cell? ⟨w.heap.size + 1 + 1, 1, none⟩ = some (.slice at' nt ct))) (by kernel_rfl) ?_ (fun hS0 => ?_)
    · (refine (fun hB => ⟨hB, cell_keep xC0 hB, cell_keep xC1 hB, cell_keep xC2 hB, cell_keep xC3 hB, cell_keep xF0 hB, cell_keep xF1 hB, cell_keep xT0 hB, cell_keep xT1 hB⟩ : Below ((((w.alloc (Obj.cells #[.int .i64 2, .int .i64 0, .int .i64 0, .slice (some ⟨bc, oc, none⟩) 2 cc] 30)).alloc (Obj.cells #[.int .i64 kf, .slice af nf cf] 25)).alloc (Obj.cells #[.int .i64 kt, .slice at' nt ct] 25))).heap.size (((w.alloc (Obj.cells #[.int .i64 2, .int .i64 0, .int .i64 0, .slice (some ⟨bc, oc, none⟩) 2 cc] 30)).alloc (Obj.cells #[.int .i64 kf, .slice af nf cf] 25)).alloc (Obj.cells #[.int .i64 kt, .slice at' nt ct] 25)) _ → _) ?_; exact below_drew _)
    refine regTake (i := 0) (v := ?vn2_0) rfl (by kernel_rfl) (by kernel_rfl) (by kernel_rfl) (fun _ _ _ h => h) (Or.inl ⟨by rfl, ?hyn2_0⟩) (by assumption) ?_
    case hyn2_0 => (intro w hSw; (try dsimp only at hSw); go_simp; (try with_reducible rfl))
    try simp only [Act.put, List.setIfInBounds_toArray, List.set_cons_zero, List.set_cons_succ]
    refine regTake (i := 1) (v := ?vn2_1) rfl (by kernel_rfl) (by kernel_rfl) (by kernel_rfl) (fun _ _ _ h => h) (Or.inl ⟨by rfl, ?hyn2_1⟩) (by assumption) ?_
    case hyn2_1 => (intro w hSw; (try dsimp only at hSw); go_simp; (try with_reducible rfl))
    try simp only [Act.put, List.setIfInBounds_toArray, List.set_cons_zero, List.set_cons_succ]
    refine regTake (i := 2) (v := ?vn2_2) rfl (by kernel_rfl) (by kernel_rfl) (by kernel_rfl) (fun _ _ _ h => h) (Or.inl ⟨by rfl, ?hyn2_2⟩) (by assumption) ?_
    case hyn2_2 => (intro w hSw; (try dsimp only at hSw); go_simp; (try with_reducible rfl))
    try simp only [Act.put, List.setIfInBounds_toArray, List.set_cons_zero, List.set_cons_succ]
    refine regTake (i := 3) (v := ?vn2_3) rfl (by kernel_rfl) (by kernel_rfl) (by kernel_rfl) (fun _ _ _ h => h) (Or.inl ⟨by rfl, ?hyn2_3⟩) (by assumption) ?_
    case hyn2_3 => (intro w hSw; (try dsimp only at hSw); go_simp; (try with_reducible rfl))
    try simp only [Act.put, List.setIfInBounds_toArray, List.set_cons_zero, List.set_cons_succ]
    refine regTake (i := 4) (v := ?vn2_4) rfl (by kernel_rfl) (by kernel_rfl) (by kernel_rfl) (fun _ _ _ h => h) (Or.inl ⟨by rfl, ?hyn2_4⟩) (by assumption) ?_
    case hyn2_4 => (intro w hSw; (try dsimp only at hSw); go_simp; (try with_reducible rfl))
    try simp only [Act.put, List.setIfInBounds_toArray, List.set_cons_zero, List.set_cons_succ]
    refine regTake (i := 5) (v := ?vn2_5) rfl (by kernel_rfl) (by kernel_rfl) (by kernel_rfl) (fun _ _ _ h => h) (Or.inl ⟨by rfl, ?hyn2_5⟩) (by assumption) ?_
    case hyn2_5 => (intro w hSw; (try dsimp only at hSw); go_simp; (try with_reducible rfl))
    try simp only [Act.put, List.setIfInBounds_toArray, List.set_cons_zero, List.set_cons_succ]
    refine regTake (i := 6) (v := ?vn2_6) rfl (by kernel_rfl) (by kernel_rfl) (by kernel_rfl) (fun _ _ _ h => h) (Or.inl ⟨by rfl, ?hyn2_6⟩) (by assumption) ?_
    case hyn2_6 => (intro w hSw; (try dsimp only at hSw); go_simp; (try with_reducible rfl))
    try simp only [Act.put, List.setIfInBounds_toArray, List.set_cons_zero, List.set_cons_succ]
    refine regTake (i := 7) (v := .bool false) rfl (by kernel_rfl) (by kernel_rfl) (by kernel_rfl) (fun _ _ _ h => h) (Or.inl ⟨by rfl, ?hyn2_7⟩) (by assumption) ?_
    case hyn2_7 => (intro w hSw; (try dsimp only at hSw); go_simp; (try with_reducible rfl))
    try simp only [Act.put, List.setIfInBounds_toArray, List.set_cons_zero, List.set_cons_succ]
    refine regTake (i := 8) (v := ?vn2_8) rfl (by kernel_rfl) (by kernel_rfl) (by kernel_rfl) (fun _ _ _ h => h) (Or.inl ⟨by rfl, ?hyn2_8⟩) (by assumption) ?_
    case hyn2_8 => (intro w hSw; (try dsimp only at hSw); go_simp; (try with_reducible rfl))
    try simp only [Act.put, List.setIfInBounds_toArray, List.set_cons_zero, List.set_cons_succ]
    refine regTake (i := 9) (v := undef) rfl (by kernel_rfl) (by kernel_rfl) (by kernel_rfl) (fun _ _ _ h => h) (Or.inr ⟨by rfl, rfl⟩) (by assumption) ?_
    try simp only [Act.put, List.setIfInBounds_toArray, List.set_cons_zero, List.set_cons_succ]
    refine regTake (i := 10) (v := undef) rfl (by kernel_rfl) (by kernel_rfl) (by kernel_rfl) (fun _ _ _ h => h) (Or.inr ⟨by rfl, rfl⟩) (by assumption) ?_
    try simp only [Act.put, List.setIfInBounds_toArray, List.set_cons_zero, List.set_cons_succ]
    refine regTake (i := 11) (v := undef) rfl (by kernel_rfl) (by kernel_rfl) (by kernel_rfl) (fun _ _ _ h => h) (Or.inr ⟨by rfl, rfl⟩) (by assumption) ?_
    try simp only [Act.put, List.setIfInBounds_toArray, List.set_cons_zero, List.set_cons_succ]
    refine regTake (i := 12) (v := undef) rfl (by kernel_rfl) (by kernel_rfl) (by kernel_rfl) (fun _ _ _ h => h) (Or.inr ⟨by rfl, rfl⟩) (by assumption) ?_
    try simp only [Act.put, List.setIfInBounds_toArray, List.set_cons_zero, List.set_cons_succ]
    refine regTake (i := 13) (v := undef) rfl (by kernel_rfl) (by kernel_rfl) (by kernel_rfl) (fun _ _ _ h => h) (Or.inr ⟨by rfl, rfl⟩) (by assumption) ?_
    try simp only [Act.put, List.setIfInBounds_toArray, List.set_cons_zero, List.set_cons_succ]
    refine regTake (i := 14) (v := undef) rfl (by kernel_rfl) (by kernel_rfl) (by kernel_rfl) (fun _ _ _ h => h) (Or.inr ⟨by rfl, rfl⟩) (by assumption) ?_
    try simp only [Act.put, List.setIfInBounds_toArray, List.set_cons_zero, List.set_cons_succ]
    refine regTake (i := 15) (v := undef) rfl (by kernel_rfl) (by kernel_rfl) (by kernel_rfl) (fun _ _ _ h => h) (Or.inr ⟨by rfl, rfl⟩) (by assumption) ?_
    try simp only [Act.put, List.setIfInBounds_toArray, List.set_cons_zero, List.set_cons_succ]
    refine regTake (i := 16) (v := undef) rfl (by kernel_rfl) (by kernel_rfl) (by kernel_rfl) (fun _ _ _ h => h) (Or.inr ⟨by rfl, rfl⟩) (by assumption) ?_
    try simp only [Act.put, List.setIfInBounds_toArray, List.set_cons_zero, List.set_cons_succ]
    refine regTake (i := 17) (v := undef) rfl (by kernel_rfl) (by kernel_rfl) (by kernel_rfl) (fun _ _ _ h => h) (Or.inr ⟨by rfl, rfl⟩) (by assumption) ?_
    try simp only [Act.put, List.setIfInBounds_toArray, List.set_cons_zero, List.set_cons_succ]
    refine regTake (i := 18) (v := undef) rfl (by kernel_rfl) (by kernel_rfl) (by kernel_rfl) (fun _ _ _ h => h) (Or.inr ⟨by rfl, rfl⟩) (by assumption) ?_
    try simp only [Act.put, List.setIfInBounds_toArray, List.set_cons_zero, List.set_cons_succ]
    refine regTake (i := 19) (v := undef) rfl (by kernel_rfl) (by kernel_rfl) (by kernel_rfl) (fun _ _ _ h => h) (Or.inr ⟨by rfl, rfl⟩) (by assumption) ?_
    try simp only [Act.put, List.setIfInBounds_toArray, List.set_cons_zero, List.set_cons_succ]
    refine regTake (i := 20) (v := undef) rfl (by kernel_rfl) (by kernel_rfl) (by kernel_rfl) (fun _ _ _ h => h) (Or.inr ⟨by rfl, rfl⟩) (by assumption) ?_
    try simp only [Act.put, List.setIfInBounds_toArray, List.set_cons_zero, List.set_cons_succ]
    refine regTake (i := 21) (v := undef) rfl (by kernel_rfl) (by kernel_rfl) (by kernel_rfl) (fun _ _ _ h => h) (Or.inr ⟨by rfl, rfl⟩) (by assumption) ?_
    try simp only [Act.put, List.setIfInBounds_toArray, List.set_cons_zero, List.set_cons_succ]
    refine regTake (i := 22) (v := .bool false) rfl (by kernel_rfl) (by kernel_rfl) (by kernel_rfl) (fun _ _ _ h => h) (Or.inl ⟨by rfl, ?hyn2_22⟩) (by assumption) ?_
    case hyn2_22 => (intro w hSw; (try dsimp only at hSw); go_simp; (try with_reducible rfl))
    try simp only [Act.put, List.setIfInBounds_toArray, List.set_cons_zero, List.set_cons_succ]
    refine regTake (i := 23) (v := ?vn2_23) rfl (by kernel_rfl) (by kernel_rfl) (by kernel_rfl) (fun _ _ _ h => h) (Or.inl ⟨by rfl, ?hyn2_23⟩) (by assumption) ?_
    case hyn2_23 => (intro w hSw; (try dsimp only at hSw); go_simp; (try with_reducible rfl))
    try simp only [Act.put, List.setIfInBounds_toArray, List.set_cons_zero, List.set_cons_succ]
    refine regTake (i := 24) (v := undef) rfl (by kernel_rfl) (by kernel_rfl) (by kernel_rfl) (fun _ _ _ h => h) (Or.inr ⟨by rfl, rfl⟩) (by assumption) ?_
    try simp only [Act.put, List.setIfInBounds_toArray, List.set_cons_zero, List.set_cons_succ]
    refine regTake (i := 25) (v := undef) rfl (by kernel_rfl) (by kernel_rfl) (by kernel_rfl) (fun _ _ _ h => h) (Or.inr ⟨by rfl, rfl⟩) (by assumption) ?_
    try simp only [Act.put, List.setIfInBounds_toArray, List.set_cons_zero, List.set_cons_succ]
    refine regTake (i := 26) (v := undef) rfl (by kernel_rfl) (by kernel_rfl) (by kernel_rfl) (fun _ _ _ h => h) (Or.inr ⟨by rfl, rfl⟩) (by assumption) ?_
    try simp only [Act.put, List.setIfInBounds_toArray, List.set_cons_zero, List.set_cons_succ]
    refine regTake (i := 27) (v := undef) rfl (by kernel_rfl) (by kernel_rfl) (by kernel_rfl) (fun _ _ _ h => h) (Or.inr ⟨by rfl, rfl⟩) (by assumption) ?_
    try simp only [Act.put, List.setIfInBounds_toArray, List.set_cons_zero, List.set_cons_succ]
    refine regTake (i := 28) (v := undef) rfl (by kernel_rfl) (by kernel_rfl) (by kernel_rfl) (fun _ _ _ h => h) (Or.inr ⟨by rfl, rfl⟩) (by assumption) ?_
    try simp only [Act.put, List.setIfInBounds_toArray, List.set_cons_zero, List.set_cons_succ]
    refine regTake (i := 29) (v := undef) rfl (by kernel_rfl) (by kernel_rfl) (by kernel_rfl) (fun _ _ _ h => h) (Or.inr ⟨by rfl, rfl⟩) (by assumption) ?_
    try simp only [Act.put, List.setIfInBounds_toArray, List.set_cons_zero, List.set_cons_succ]
    refine regTake (i := 30) (v := undef) rfl (by kernel_rfl) (by kernel_rfl) (by kernel_rfl) (fun _ _ _ h => h) (Or.inr ⟨by rfl, rfl⟩) (by assumption) ?_
    try simp only [Act.put, List.setIfInBounds_toArray, List.set_cons_zero, List.set_cons_succ]
    refine regTake (i := 31) (v := undef) rfl (by kernel_rfl) (by kernel_rfl) (by kernel_rfl) (fun _ _ _ h => h) (Or.inr ⟨by rfl, rfl⟩) (by assumption) ?_
    try simp only [Act.put, List.setIfInBounds_toArray, List.set_cons_zero, List.set_cons_succ]
    refine regTake (i := 32) (v := undef) rfl (by kernel_rfl) (by kernel_rfl) (by kernel_rfl) (fun _ _ _ h => h) (Or.inr ⟨by rfl, rfl⟩) (by assumption) ?_
    try simp only [Act.put, List.setIfInBounds_toArray, List.set_cons_zero, List.set_cons_succ]
    refine regTake (i := 33) (v := undef) rfl (by kernel_rfl) (by kernel_rfl) (by kernel_rfl) (fun _ _ _ h => h) (Or.inr ⟨by rfl, rfl⟩) (by assumption) ?_
    try simp only [Act.put, List.setIfInBounds_toArray, List.set_cons_zero, List.set_cons_succ]
    refine regTake (i := 34) (v := undef) rfl (by kernel_rfl) (by kernel_rfl) (by kernel_rfl) (fun _ _ _ h => h) (Or.inr ⟨by rfl, rfl⟩) (by assumption) ?_
    try simp only [Act.put, List.setIfInBounds_toArray, List.set_cons_zero, List.set_cons_succ]
    refine regTake (i := 35) (v := undef) rfl (by kernel_rfl) (by kernel_rfl) (by kernel_rfl) (fun _ _ _ h => h) (Or.inr ⟨by rfl, rfl⟩) (by assumption) ?_
    try simp only [Act.put, List.setIfInBounds_toArray, List.set_cons_zero, List.set_cons_succ]
    refine regTake (i := 36) (v := undef) rfl (by kernel_rfl) (by kernel_rfl) (by kernel_rfl) (fun _ _ _ h => h) (Or.inr ⟨by rfl, rfl⟩) (by assumption) ?_
    try simp only [Act.put, List.setIfInBounds_toArray, List.set_cons_zero, List.set_cons_succ]
    refine regTake (i := 37) (v := .bool false) rfl (by kernel_rfl) (by kernel_rfl) (by kernel_rfl) (fun _ _ _ h => h) (Or.inl ⟨by rfl, ?hyn2_37⟩) (by assumption) ?_
    case hyn2_37 => (intro w hSw; (try dsimp only at hSw); go_simp; (try with_reducible rfl))
    try simp only [Act.put, List.setIfInBounds_toArray, List.set_cons_zero, List.set_cons_succ]
    refine regTake (i := 38) (v := ?vn2_38) rfl (by kernel_rfl) (by kernel_rfl) (by kernel_rfl) (fun _ _ _ h => h) (Or.inl ⟨by rfl, ?hyn2_38⟩) (by assumption) ?_
    case hyn2_38 => (intro w hSw; (try dsimp only at hSw); go_simp; (try with_reducible rfl))
    try simp only [Act.put, List.setIfInBounds_toArray, List.set_cons_zero, List.set_cons_succ]
    refine wpAnyH_done (by kernel_rfl) ?_ _
    go_wp2_with fail
    go_ret
    exact ⟨ret_b HT.out.symm, below_trans hb0 (below_drew _)⟩
  have q1 : (kf == 4) = true := by simpa using hk
  have q2 : (kt == 4) = true := by simpa using hk2
  obtain ⟨f1, f2, rfl, hf1, hf2⟩ : ∃ f1 f2, fs = [f1, f2] ∧ shp 4 f1 = true ∧ shp 4 f2 = true := by
    rcases shp_cases hf4 with ⟨_, h⟩ | ⟨x, y, h, _, hx, hy⟩
    · omega
    · exact ⟨x, y, h, shp_up (by omega) hx, shp_up (by omega) hy⟩
  obtain ⟨t1, t2, rfl, ht1, ht2⟩ : ∃ t1 t2, ts = [t1, t2] ∧ shp 4 t1 = true ∧ shp 4 t2 = true := by
    rcases shp_cases ht4 with ⟨_, h⟩ | ⟨x, y, h, _, hx, hy⟩
    · omega
    · exact ⟨x, y, h, shp_up (by omega) hx, shp_up (by omega) hy⟩
  obtain ⟨bf, of, cf, k1, n1, a1, c1, k2, n2, a2, c2, r1, r2, rfl, hbf, u0, u1, u2, u3, hX1, hX2, _, hcf⟩ := hsf.two
  obtain ⟨bt, ot, ct, k3, n3, a3, c3, k4, n4, a4, c4, r3, r4, rfl, hbt, v0, v1, v2, v3, hY1, hY2, _, hct⟩ := hst.two
  have HT := hid (show typC (n + 1) (.mk 2 0 0 [a, b]) (.mk kf [f1, f2]) (.mk kt [t1, t2]) = (typC n a t1 f1 && typC n b f2 t2) by
    simp [typC, kindT, kidsT', hk, hk2])
  clear hk hk2
  have hb0 : Below w.heap.size w (((w.alloc (Obj.cells #[.int .i64 2, .int .i64 0, .int .i64 0, .slice (some ⟨bc, oc, none⟩) 2 cc] 30)).alloc (Obj.cells #[.int .i64 kf, .slice (some ⟨bf, of, none⟩) 2 cf] 25)).alloc (Obj.cells #[.int .i64 kt, .slice (some ⟨bt, ot, none⟩) 2 ct] 25)) := (((Below.refl _ _).alloc (Nat.le_refl _) _).alloc (by simp) _).alloc (by simp; omega) _
  obtain ⟨bC, bF, bT⟩ := three3 (Below.refl ((((w.alloc (Obj.cells #[.int .i64 2, .int .i64 0, .int .i64 0, .slice (some ⟨bc, oc, none⟩) 2 cc] 30)).alloc (Obj.cells #[.int .i64 kf, .slice (some ⟨bf, of, none⟩) 2 cf] 25)).alloc (Obj.cells #[.int .i64 kt, .slice (some ⟨bt, ot, none⟩) 2 ct] 25))).heap.size (((w.alloc (Obj.cells #[.int .i64 2, .int .i64 0, .int .i64 0, .slice (some ⟨bc, oc, none⟩) 2 cc] 30)).alloc (Obj.cells #[.int .i64 kf, .slice (some ⟨bf, of, none⟩) 2 cf] 25)).alloc (Obj.cells #[.int .i64 kt, .slice (some ⟨bt, ot, none⟩) 2 ct] 25)))
  have xC0 : ((((w.alloc (Obj.cells #[.int .i64 2, .int .i64 0, .int .i64 0, .slice (some ⟨bc, oc, none⟩) 2 cc] 30)).alloc (Obj.cells #[.int .i64 kf, .slice (some ⟨bf, of, none⟩) 2 cf] 25)).alloc (Obj.cells #[.int .i64 kt, .slice (some ⟨bt, ot, none⟩) 2 ct] 25))).cell? ⟨w.heap.size, 0, none⟩ = some (.int .i64 2) := by rw [cell_of_block bC]; rfl
  have xC1 : ((((w.alloc (Obj.cells #[.int .i64 2, .int .i64 0, .int .i64 0, .slice (some ⟨bc, oc, none⟩) 2 cc] 30)).alloc (Obj.cells #[.int .i64 kf, .slice (some ⟨bf, of, none⟩) 2 cf] 25)).alloc (Obj.cells #[.int .i64 kt, .slice (some ⟨bt, ot, none⟩) 2 ct] 25))).cell? ⟨w.heap.size, 1, none⟩ = some (.int .i64 0) := by rw [cell_of_block bC]; rfl
  have xC2 : ((((w.alloc (Obj.cells #[.int .i64 2, .int .i64 0, .int .i64 0, .slice (some ⟨bc, oc, none⟩) 2 cc] 30)).alloc (Obj.cells #[.int .i64 kf, .slice (some ⟨bf, of, none⟩) 2 cf] 25)).alloc (Obj.cells #[.int .i64 kt, .slice (some ⟨bt, ot, none⟩) 2 ct] 25))).cell? ⟨w.heap.size, 2, none⟩ = some (.int .i64 0) := by rw [cell_of_block bC]; rfl
  have xC3 : ((((w.alloc (Obj.cells #[.int .i64 2, .int .i64 0, .int .i64 0, .slice (some ⟨bc, oc, none⟩) 2 cc] 30)).alloc (Obj.cells #[.int .i64 kf, .slice (some ⟨bf, of, none⟩) 2 cf] 25)).alloc (Obj.cells #[.int .i64 kt, .slice (some ⟨bt, ot, none⟩) 2 ct] 25))).cell? ⟨w.heap.size, 3, none⟩ = some (.slice (some ⟨bc, oc, none⟩) 2 cc) := by rw [cell_of_block bC]; rfl
  have xF0 : ((((w.alloc (Obj.cells #[.int .i64 2, .int .i64 0, .int .i64 0, .slice (some ⟨bc, oc, none⟩) 2 cc] 30)).alloc (Obj.cells #[.int .i64 kf, .slice (some ⟨bf, of, none⟩) 2 cf] 25)).alloc (Obj.cells #[.int .i64 kt, .slice (some ⟨bt, ot, none⟩) 2 ct] 25))).cell? ⟨w.heap.size + 1, 0, none⟩ = some (.int .i64 kf) := by rw [cell_of_block bF]; rfl
  have xF1 : ((((w.alloc (Obj.cells #[.int .i64 2, .int .i64 0, .int .i64 0, .slice (some ⟨bc, oc, none⟩) 2 cc] 30)).alloc (Obj.cells #[.int .i64 kf, .slice (some ⟨bf, of, none⟩) 2 cf] 25)).alloc (Obj.cells #[.int .i64 kt, .slice (some ⟨bt, ot, none⟩) 2 ct] 25))).cell? ⟨w.heap.size + 1, 1, none⟩ = some (.slice (some ⟨bf, of, none⟩) 2 cf) := by rw [cell_of_block bF]; rfl
  have xT0 : ((((w.alloc (Obj.cells #[.int .i64 2, .int .i64 0, .int .i64 0, .slice (some ⟨bc, oc, none⟩) 2 cc] 30)).alloc (Obj.cells #[.int .i64 kf, .slice (some ⟨bf, of, none⟩) 2 cf] 25)).alloc (Obj.cells #[.int .i64 kt, .slice (some ⟨bt, ot, none⟩) 2 ct] 25))).cell? ⟨w.heap.size + 1 + 1, 0, none⟩ = some (.int .i64 kt) := by rw [cell_of_block bT]; rfl
  have xT1 : ((((w.alloc (Obj.cells #[.int .i64 2, .int .i64 0, .int .i64 0, .slice (some ⟨bc, oc, none⟩) 2 cc] 30)).alloc (Obj.cells #[.int .i64 kf, .slice (some ⟨bf, of, none⟩) 2 cf] 25)).alloc (Obj.cells #[.int .i64 kt, .slice (some ⟨bt, ot, none⟩) 2 ct] 25))).cell? ⟨w.heap.size + 1 + 1, 1, none⟩ = some (.slice (some ⟨bt, ot, none⟩) 2 ct) := by rw [cell_of_block bT]; rfl
  clear bC bF bT
  replace d0 := cell_keep d0 hb0
  replace d1 := cell_keep d1 hb0
  replace d2 := cell_keep d2 hb0
  replace d3 := cell_keep d3 hb0
  replace e0 := cell_keep e0 hb0
  replace e1 := cell_keep e1 hb0
  replace e2 := cell_keep e2 hb0
  replace e3 := cell_keep e3 hb0
  replace u0 := cell_keep u0 hb0
  replace u1 := cell_keep u1 hb0
  replace u2 := cell_keep u2 hb0
  replace u3 := cell_keep u3 hb0
  replace v0 := cell_keep v0 hb0
  replace v1 := cell_keep v1 hb0
  replace v2 := cell_keep v2 hb0
  replace v3 := cell_keep v3 hb0
  have H := hid (And.intro (hA.below hb0) (And.intro (hB.below hb0) (And.intro (hX1.below hb0) (And.intro (hX2.below hb0) (And.intro (hY1.below hb0) (hY2.below hb0))))))
  have HIH := hid ih
  have HP := hid (And.intro hsa (And.intro hsb (And.intro hf1 (And.intro hf2 (And.intro ht1 ht2)))))
  clear ih hatc hatf hatt hsc hsf hst hA hB hX1 hX2 hY1 hY2 hsa hsb hf1 hf2 ht1 ht2 hf4 ht4
  cases hv : typC n a t1 f1 with
  | false =>
    have HV := hid hv
    rw [hv, Bool.false_and] at HT
    clear hv
    go_enter Try.func51, Try.ntmps51
    go_wp2_with fail
    refine wp_region_held_drew (S := (fun w' => Below ((((w.alloc (Obj.cells #[.int .i64 2, .int .i64 0, .int .i64 0, .slice (some ⟨bc, oc, none⟩) 2 cc] 30)).alloc (Obj.cells #[.int .i64 kf, .slice (some ⟨bf, of, none⟩) 2 cf] 25)).alloc (Obj.cells #[.int .i64 kt, .slice (some ⟨bt, ot, none⟩) 2 ct] 25))).heap.size (((w.alloc (Obj.cells #[.int .i64 2, .int .i64 0, .int .i64 0, .slice (some ⟨bc, oc, none⟩) 2 cc] 30)).alloc (Obj.cells #[.int .i64 kf, .slice (some ⟨bf, of, none⟩) 2 cf] 25)).alloc (Obj.cells #[.int .i64 kt, .slice (some ⟨bt, ot, none⟩) 2 ct] 25)) w' ∧ w'.cell? ⟨w.heap.size, 0, none⟩ = some (.int .i64 2) ∧ w'.cell? ⟨w.heap.size, 1, none⟩ = some (.int .i64 0) ∧ w'.cell? ⟨w.heap.size, 2, none⟩ = some (.int .i64 0) ∧ w'.cell? ⟨w.heap.size, 3, none⟩ = some (.slice (some ⟨bc, oc, none⟩) 2 cc) ∧ w'.cell? ⟨w.heap.size + 1, 0, none⟩ = some (.int .i64 kf) ∧ w'.cell? ⟨w.heap.size + 1, 1, none⟩ = some (.slice (some ⟨bf, of, none⟩) 2 cf) ∧ w'.cell? ⟨w.heap.size + 1 + 1, 0, none⟩ = some (.int .i64 kt) ∧ w'.cell? ⟨w.heap.size + 1 + 1, 1, none⟩ = some (.slice (some ⟨bt, ot, none⟩) 2 ct) ∧ w'.cell? ⟨bc, oc, none⟩ = some (.int .i64 ka) ∧ w'.cell? ⟨bc, oc + 1, none⟩ = some (.int .i64 ga) ∧ w'.cell? ⟨bc, oc + 2, none⟩ = some (.int .i64 la) ∧ w'.cell? ⟨bc, oc + 3, none⟩ = some (.slice aa na ca) ∧ w'.cell? ⟨bc, oc + 4, none⟩ = some (.int .i64 kb) ∧ w'.cell? ⟨bc, oc + 4 + 1, none⟩ = some (.int .i64 gb) ∧ w'.cell? ⟨bc, oc + 4 + 2, none⟩ = some (.int .i64 lb) ∧ w'.cell? ⟨bc, oc + 4 + 3, none⟩ = some (.slice ab nb cb) ∧ w'.cell? ⟨bf, of, none⟩ = some (.int .i64 k1) ∧ w'.cell? ⟨bf, of + 1, none⟩ = some (.slice a1 n1 c1) ∧ w'.cell? ⟨bf, of + 2, none⟩ = some (.int .i64 k2) ∧ w'.cell? ⟨bf, of + 2 + 1, none⟩ = some (.slice a2 n2 c2) ∧ w'.cell? ⟨bt, ot, none⟩ = some (.int .i64 k3) ∧ w'.cell? ⟨bt, ot + 1, none⟩ = some (.slice a3 n3 c3) ∧ w'.cell? ⟨bt, ot + 2, none⟩ = some (.int .i64 k4) ∧ w'.cell? ⟨bt, ot + 2 + 1, none⟩ = some (.slice a4 n4 c4))) (by kernel_rfl) ?_ (fun hS0 => ?_)
    · (refine (fun hB => ⟨hB, cell_keep xC0 hB, cell_keep xC1 hB, cell_keep xC2 hB, cell_keep xC3 hB, cell_keep xF0 hB, cell_keep xF1 hB, cell_keep xT0 hB, cell_keep xT1 hB, cell_keep d0 hB, cell_keep d1 hB, cell_keep d2 hB, cell_keep d3 hB, cell_keep e0 hB, cell_keep e1 hB, cell_keep e2 hB, cell_keep e3 hB, cell_keep u0 hB, cell_keep u1 hB, cell_keep u2 hB, cell_keep u3 hB, cell_keep v0 hB, cell_keep v1 hB, cell_keep v2 hB, cell_keep v3 hB⟩ : Below ((((w.alloc (Obj.cells #[.int .i64 2, .int .i64 0, .int .i64 0, .slice (some ⟨bc, oc, none⟩) 2 cc] 30)).alloc (Obj.cells #[.int .i64 kf, .slice (some ⟨bf, of, none⟩) 2 cf] 25)).alloc (Obj.cells #[.int .i64 kt, .slice (some ⟨bt, ot, none⟩) 2 ct] 25))).heap.size (((w.alloc (Obj.cells #[.int .i64 2, .int .i64 0, .int .i64 0, .slice (some ⟨bc, oc, none⟩) 2 cc] 30)).alloc (Obj.cells #[.int .i64 kf, .slice (some ⟨bf, of, none⟩) 2 cf] 25)).alloc (Obj.cells #[.int .i64 kt, .slice (some ⟨bt, ot, none⟩) 2 ct] 25)) _ → _) ?_; exact below_drew _)
    refine regTake (i := 0) (v := ?vn3_0) rfl (by kernel_rfl) (by kernel_rfl) (by kernel_rfl) (fun _ _ _ h => h) (Or.inl ⟨by rfl, ?hyn3_0⟩) (by assumption) ?_
    case hyn3_0 => (intro w hSw; (try dsimp only at hSw); go_simp; (try with_reducible rfl))
    try simp only [Act.put, List.setIfInBounds_toArray, List.set_cons_zero, List.set_cons_succ]
    refine regTake (i := 1) (v := ?vn3_1) rfl (by kernel_rfl) (by kernel_rfl) (by kernel_rfl) (fun _ _ _ h => h) (Or.inl ⟨by rfl, ?hyn3_1⟩) (by assumption) ?_
    case hyn3_1 => (intro w hSw; (try dsimp only at hSw); go_simp; (try with_reducible rfl))
    try simp only [Act.put, List.setIfInBounds_toArray, List.set_cons_zero, List.set_cons_succ]
    refine regTake (i := 2) (v := ?vn3_2) rfl (by kernel_rfl) (by kernel_rfl) (by kernel_rfl) (fun _ _ _ h => h) (Or.inl ⟨by rfl, ?hyn3_2⟩) (by assumption) ?_
    case hyn3_2 => (intro w hSw; (try dsimp only at hSw); go_simp; (try with_reducible rfl))
    try simp only [Act.put, List.setIfInBounds_toArray, List.set_cons_zero, List.set_cons_succ]
    refine regTake (i := 3) (v := ?vn3_3) rfl (by kernel_rfl) (by kernel_rfl) (by kernel_rfl) (fun _ _ _ h => h) (Or.inl ⟨by rfl, ?hyn3_3⟩) (by assumption) ?_
    case hyn3_3 => (intro w hSw; (try dsimp only at hSw); go_simp; (try with_reducible rfl))
    try simp only [Act.put, List.setIfInBounds_toArray, List.set_cons_zero, List.set_cons_succ]
    refine regTake (i := 4) (v := ?vn3_4) rfl (by kernel_rfl) (by kernel_rfl) (by kernel_rfl) (fun _ _ _ h => h) (Or.inl ⟨by rfl, ?hyn3_4⟩) (by assumption) ?_
    case hyn3_4 => (intro w hSw; (try dsimp only at hSw); go_simp; (try with_reducible rfl))
    try simp only [Act.put, List.setIfInBounds_toArray, List.set_cons_zero, List.set_cons_succ]
    refine regTake (i := 5) (v := ?vn3_5) rfl (by kernel_rfl) (by kernel_rfl) (by kernel_rfl) (fun _ _ _ h => h) (Or.inl ⟨by rfl, ?hyn3_5⟩) (by assumption) ?_
    case hyn3_5 => (intro w hSw; (try dsimp only at hSw); go_simp; (try with_reducible rfl))
    try simp only [Act.put, List.setIfInBounds_toArray, List.set_cons_zero, List.set_cons_succ]
    refine regTake (i := 6) (v := ?vn3_6) rfl (by kernel_rfl) (by kernel_rfl) (by kernel_rfl) (fun _ _ _ h => h) (Or.inl ⟨by rfl, ?hyn3_6⟩) (by assumption) ?_
    case hyn3_6 => (intro w hSw; (try dsimp only at hSw); go_simp; (try with_reducible rfl))
    try simp only [Act.put, List.setIfInBounds_toArray, List.set_cons_zero, List.set_cons_succ]
    refine regTake (i := 7) (v := .bool true) rfl (by kernel_rfl) (by kernel_rfl) (by kernel_rfl) (fun _ _ _ h => h) (Or.inl ⟨by rfl, ?hyn3_7⟩) (by assumption) ?_
    case hyn3_7 => (intro w hSw; (try dsimp only at hSw); go_simp; (try with_reducible rfl))
    try simp only [Act.put, List.setIfInBounds_toArray, List.set_cons_zero, List.set_cons_succ]
    refine regTake (i := 8) (v := ?vn3_8) rfl (by kernel_rfl) (by kernel_rfl) (by kernel_rfl) (fun _ _ _ h => h) (Or.inl ⟨by rfl, ?hyn3_8⟩) (by assumption) ?_
    case hyn3_8 => (intro w hSw; (try dsimp only at hSw); go_simp; (try with_reducible rfl))
    try simp only [Act.put, List.setIfInBounds_toArray, List.set_cons_zero, List.set_cons_succ]
    refine regTake (i := 9) (v := ?vn3_9) rfl (by kernel_rfl) (by kernel_rfl) (by kernel_rfl) (fun _ _ _ h => h) (Or.inl ⟨by rfl, ?hyn3_9⟩) (by assumption) ?_
    case hyn3_9 => (intro w hSw; (try dsimp only at hSw); go_simp; (try with_reducible rfl))
    try simp only [Act.put, List.setIfInBounds_toArray, List.set_cons_zero, List.set_cons_succ]
    refine regTake (i := 10) (v := ?vn3_10) rfl (by kernel_rfl) (by kernel_rfl) (by kernel_rfl) (fun _ _ _ h => h) (Or.inl ⟨by rfl, ?hyn3_10⟩) (by assumption) ?_
    case hyn3_10 => (intro w hSw; (try dsimp only at hSw); go_simp; (try with_reducible rfl))
    try simp only [Act.put, List.setIfInBounds_toArray, List.set_cons_zero, List.set_cons_succ]
    refine regTake (i := 11) (v := ?vn3_11) rfl (by kernel_rfl) (by kernel_rfl) (by kernel_rfl) (fun _ _ _ h => h) (Or.inl ⟨by rfl, ?hyn3_11⟩) (by assumption) ?_
    case hyn3_11 => (intro w hSw; (try dsimp only at hSw); go_simp; (try with_reducible rfl))
    try simp only [Act.put, List.setIfInBounds_toArray, List.set_cons_zero, List.set_cons_succ]
    refine regTake (i := 12) (v := ?vn3_12) rfl (by kernel_rfl) (by kernel_rfl) (by kernel_rfl) (fun _ _ _ h => h) (Or.inl ⟨by rfl, ?hyn3_12⟩) (by assumption) ?_
    case hyn3_12 => (intro w hSw; (try dsimp only at hSw); go_simp; (try with_reducible rfl))
    try simp only [Act.put, List.setIfInBounds_toArray, List.set_cons_zero, List.set_cons_succ]
    refine regTake (i := 13) (v := ?vn3_13) rfl (by kernel_rfl) (by kernel_rfl) (by kernel_rfl) (fun _ _ _ h => h) (Or.inl ⟨by rfl, ?hyn3_13⟩) (by assumption) ?_
    case hyn3_13 => (intro w hSw; (try dsimp only at hSw); go_simp; (try with_reducible rfl))
    try simp only [Act.put, List.setIfInBounds_toArray, List.set_cons_zero, List.set_cons_succ]
    refine regTake (i := 14) (v := ?vn3_14) rfl (by kernel_rfl) (by kernel_rfl) (by kernel_rfl) (fun _ _ _ h => h) (Or.inl ⟨by rfl, ?hyn3_14⟩) (by assumption) ?_
    case hyn3_14 => (intro w hSw; (try dsimp only at hSw); go_simp; (try with_reducible rfl))
    try simp only [Act.put, List.setIfInBounds_toArray, List.set_cons_zero, List.set_cons_succ]
    refine regTake (i := 15) (v := ?vn3_15) rfl (by kernel_rfl) (by kernel_rfl) (by kernel_rfl) (fun _ _ _ h => h) (Or.inl ⟨by rfl, ?hyn3_15⟩) (by assumption) ?_
    case hyn3_15 => (intro w hSw; (try dsimp only at hSw); go_simp; (try with_reducible rfl))
    try simp only [Act.put, List.setIfInBounds_toArray, List.set_cons_zero, List.set_cons_succ]
    refine regTake (i := 16) (v := ?vn3_16) rfl (by kernel_rfl) (by kernel_rfl) (by kernel_rfl) (fun _ _ _ h => h) (Or.inl ⟨by rfl, ?hyn3_16⟩) (by assumption) ?_
    case hyn3_16 => (intro w hSw; (try dsimp only at hSw); go_simp; (try with_reducible rfl))
    try simp only [Act.put, List.setIfInBounds_toArray, List.set_cons_zero, List.set_cons_succ]
    refine regTake (i := 17) (v := ?vn3_17) rfl (by kernel_rfl) (by kernel_rfl) (by kernel_rfl) (fun _ _ _ h => h) (Or.inl ⟨by rfl, ?hyn3_17⟩) (by assumption) ?_
    case hyn3_17 => (intro w hSw; (try dsimp only at hSw); go_simp; (try with_reducible rfl))
    try simp only [Act.put, List.setIfInBounds_toArray, List.set_cons_zero, List.set_cons_succ]
    refine regTake (i := 18) (v := ?vn3_18) rfl (by kernel_rfl) (by kernel_rfl) (by kernel_rfl) (fun _ _ _ h => h) (Or.inl ⟨by rfl, ?hyn3_18⟩) (by assumption) ?_
    case hyn3_18 => (intro w hSw; (try dsimp only at hSw); go_simp; (try with_reducible rfl))
    try simp only [Act.put, List.setIfInBounds_toArray, List.set_cons_zero, List.set_cons_succ]
    refine regTake (i := 19) (v := ?vn3_19) rfl (by kernel_rfl) (by kernel_rfl) (by kernel_rfl) (fun _ _ _ h => h) (Or.inl ⟨by rfl, ?hyn3_19⟩) (by assumption) ?_
    case hyn3_19 => (intro w hSw; (try dsimp only at hSw); go_simp; (try with_reducible rfl))
    try simp only [Act.put, List.setIfInBounds_toArray, List.set_cons_zero, List.set_cons_succ]
    refine regTake (i := 20) (v := ?vn3_20) rfl (by kernel_rfl) (by kernel_rfl) (by kernel_rfl) (fun _ _ _ h => h) (Or.inl ⟨by rfl, ?hyn3_20⟩) (by assumption) ?_
    case hyn3_20 => (intro w hSw; (try dsimp only at hSw); go_simp; (try with_reducible rfl))
    try simp only [Act.put, List.setIfInBounds_toArray, List.set_cons_zero, List.set_cons_succ]
    refine wpAnyH_ready (rs := [21]) (by kernel_rfl) (by simp) ?_
    refine regCons rfl (fun K hK => ?_)
    go_simp
    refine (HIH.out a t1 f1 _ _ _ _ _ _ _ HP.out.1 HP.out.2.2.2.2.1 HP.out.2.2.1 (H.out.1.below (below_drew _)) (H.out.2.2.2.2.1.below (below_drew _)) (H.out.2.2.1.below (below_drew _))).mono ?_
    rw [HV.out]
    rintro e w1 ⟨rfl, hb1⟩
    have hk0 := below_trans (below_drew (((w.alloc (Obj.cells #[.int .i64 2, .int .i64 0, .int .i64 0, .slice (some ⟨bc, oc, none⟩) 2 cc] 30)).alloc (Obj.cells #[.int .i64 kf, .slice (some ⟨bf, of, none⟩) 2 cf] 25)).alloc (Obj.cells #[.int .i64 kt, .slice (some ⟨bt, ot, none⟩) 2 ct] 25))) hb1
    refine hK.out _ _ ?_ (fun hS1 => ?_)
    · (refine (fun hB => ⟨hB, cell_keep xC0 hB, cell_keep xC1 hB, cell_keep xC2 hB, cell_keep xC3 hB, cell_keep xF0 hB, cell_keep xF1 hB, cell_keep xT0 hB, cell_keep xT1 hB, cell_keep d0 hB, cell_keep d1 hB, cell_keep d2 hB, cell_keep d3 hB, cell_keep e0 hB, cell_keep e1 hB, cell_keep e2 hB, cell_keep e3 hB, cell_keep u0 hB, cell_keep u1 hB, cell_keep u2 hB, cell_keep u3 hB, cell_keep v0 hB, cell_keep v1 hB, cell_keep v2 hB, cell_keep v3 hB⟩ : Below ((((w.alloc (Obj.cells #[.int .i64 2, .int .i64 0, .int .i64 0, .slice (some ⟨bc, oc, none⟩) 2 cc] 30)).alloc (Obj.cells #[.int .i64 kf, .slice (some ⟨bf, of, none⟩) 2 cf] 25)).alloc (Obj.cells #[.int .i64 kt, .slice (some ⟨bt, ot, none⟩) 2 ct] 25))).heap.size (((w.alloc (Obj.cells #[.int .i64 2, .int .i64 0, .int .i64 0, .slice (some ⟨bc, oc, none⟩) 2 cc] 30)).alloc (Obj.cells #[.int .i64 kf, .slice (some ⟨bf, of, none⟩) 2 cf] 25)).alloc (Obj.cells #[.int .i64 kt, .slice (some ⟨bt, ot, none⟩) 2 ct] 25)) _ → _) ?_; exact hk0)
    clear hK K hS0
    try simp only [Act.put, List.setIfInBounds_toArray, List.set_cons_zero, List.set_cons_succ]
    refine regTake (i := 22) (v := .bool false) rfl (by kernel_rfl) (by kernel_rfl) (by kernel_rfl) (fun _ _ _ h => h) (Or.inl ⟨by rfl, ?hyn3_22⟩) (by assumption) ?_
    case hyn3_22 => (intro w hSw; (try dsimp only at hSw); go_simp; (try with_reducible rfl))
    try simp only [Act.put, List.setIfInBounds_toArray, List.set_cons_zero, List.set_cons_succ]
    refine regTake (i := 23) (v := ?vn3_23) rfl (by kernel_rfl) (by kernel_rfl) (by kernel_rfl) (fun _ _ _ h => h) (Or.inl ⟨by rfl, ?hyn3_23⟩) (by assumption) ?_
    case hyn3_23 => (intro w hSw; (try dsimp only at hSw); go_simp; (try with_reducible rfl))
    try simp only [Act.put, List.setIfInBounds_toArray, List.set_cons_zero, List.set_cons_succ]
    refine regTake (i := 24) (v := undef) rfl (by kernel_rfl) (by kernel_rfl) (by kernel_rfl) (fun _ _ _ h => h) (Or.inr ⟨by rfl, rfl⟩) (by assumption) ?_
    try simp only [Act.put, List.setIfInBounds_toArray, List.set_cons_zero, List.set_cons_succ]
    refine regTake (i := 25) (v := undef) rfl (by kernel_rfl) (by kernel_rfl) (by kernel_rfl) (fun _ _ _ h => h) (Or.inr ⟨by rfl, rfl⟩) (by assumption) ?_
    try simp only [Act.put, List.setIfInBounds_toArray, List.set_cons_zero, List.set_cons_succ]
    refine regTake (i := 26) (v := undef) rfl (by kernel_rfl) (by kernel_rfl) (by kernel_rfl) (fun _ _ _ h => h) (Or.inr ⟨by rfl, rfl⟩) (by assumption) ?_
    try simp only [Act.put, List.setIfInBounds_toArray, List.set_cons_zero, List.set_cons_succ]
    refine regTake (i := 27) (v := undef) rfl (by kernel_rfl) (by kernel_rfl) (by kernel_rfl) (fun _ _ _ h => h) (Or.inr ⟨by rfl, rfl⟩) (by assumption) ?_
    try simp only [Act.put, List.setIfInBounds_toArray, List.set_cons_zero, List.set_cons_succ]
    refine regTake (i := 28) (v := undef) rfl (by kernel_rfl) (by kernel_rfl) (by kernel_rfl) (fun _ _ _ h => h) (Or.inr ⟨by rfl, rfl⟩) (by assumption) ?_
    try simp only [Act.put, List.setIfInBounds_toArray, List.set_cons_zero, List.set_cons_succ]
    refine regTake (i := 29) (v := undef) rfl (by kernel_rfl) (by kernel_rfl) (by kernel_rfl) (fun _ _ _ h => h) (Or.inr ⟨by rfl, rfl⟩) (by assumption) ?_
    try simp only [Act.put, List.setIfInBounds_toArray, List.set_cons_zero, List.set_cons_succ]
    refine regTake (i := 30) (v := undef) rfl (by kernel_rfl) (by kernel_rfl) (by kernel_rfl) (fun _ _ _ h => h) (Or.inr ⟨by rfl, rfl⟩) (by assumption) ?_
    try simp only [Act.put, List.setIfInBounds_toArray, List.set_cons_zero, List.set_cons_succ]
    refine regTake (i := 31) (v := undef) rfl (by kernel_rfl) (by kernel_rfl) (by kernel_rfl) (fun _ _ _ h => h) (Or.inr ⟨by rfl, rfl⟩) (by assumption) ?_
    try simp only [Act.put, List.setIfInBounds_toArray, List.set_cons_zero, List.set_cons_succ]
    refine regTake (i := 32) (v := undef) rfl (by kernel_rfl) (by kernel_rfl) (by kernel_rfl) (fun _ _ _ h => h) (Or.inr ⟨by rfl, rfl⟩) (by assumption) ?_
    try simp only [Act.put, List.setIfInBounds_toArray, List.set_cons_zero, List.set_cons_succ]
    refine regTake (i := 33) (v := undef) rfl (by kernel_rfl) (by kernel_rfl) (by kernel_rfl) (fun _ _ _ h => h) (Or.inr ⟨by rfl, rfl⟩) (by assumption) ?_
    try simp only [Act.put, List.setIfInBounds_toArray, List.set_cons_zero, List.set_cons_succ]
    refine regTake (i := 34) (v := undef) rfl (by kernel_rfl) (by kernel_rfl) (by kernel_rfl) (fun _ _ _ h => h) (Or.inr ⟨by rfl, rfl⟩) (by assumption) ?_
    try simp only [Act.put, List.setIfInBounds_toArray, List.set_cons_zero, List.set_cons_succ]
    refine regTake (i := 35) (v := undef) rfl (by kernel_rfl) (by kernel_rfl) (by kernel_rfl) (fun _ _ _ h => h) (Or.inr ⟨by rfl, rfl⟩) (by assumption) ?_
    try simp only [Act.put, List.setIfInBounds_toArray, List.set_cons_zero, List.set_cons_succ]
    refine regTake (i := 36) (v := undef) rfl (by kernel_rfl) (by kernel_rfl) (by kernel_rfl) (fun _ _ _ h => h) (Or.inr ⟨by rfl, rfl⟩) (by assumption) ?_
    try simp only [Act.put, List.setIfInBounds_toArray, List.set_cons_zero, List.set_cons_succ]
    refine regTake (i := 37) (v := .bool false) rfl (by kernel_rfl) (by kernel_rfl) (by kernel_rfl) (fun _ _ _ h => h) (Or.inl ⟨by rfl, ?hyn3_37⟩) (by assumption) ?_
    case hyn3_37 => (intro w hSw; (try dsimp only at hSw); go_simp; (try with_reducible rfl))
    try simp only [Act.put, List.setIfInBounds_toArray, List.set_cons_zero, List.set_cons_succ]
    refine regTake (i := 38) (v := ?vn3_38) rfl (by kernel_rfl) (by kernel_rfl) (by kernel_rfl) (fun _ _ _ h => h) (Or.inl ⟨by rfl, ?hyn3_38⟩) (by assumption) ?_
    case hyn3_38 => (intro w hSw; (try dsimp only at hSw); go_simp; (try with_reducible rfl))
    try simp only [Act.put, List.setIfInBounds_toArray, List.set_cons_zero, List.set_cons_succ]
    refine wpAnyH_done (by kernel_rfl) ?_ _
    go_wp2_with fail
    go_ret
    exact ⟨ret_b HT.out.symm, below_trans hb0 (hk0)⟩
  | true =>
    have HV := hid hv
    rw [hv, Bool.true_and] at HT
    generalize hr : typC n b f2 t2 = r at *
    have HV2 := hid hr
    clear hv hr
    go_enter Try.func51, Try.ntmps51
    go_wp2_with fail
    refine wp_region_held_drew (S := (fun w' => Below ((((w.alloc (Obj.cells #[.int .i64 2, .int .i64 0, .int .i64 0, .slice (some ⟨bc, oc, none⟩) 2 cc] 30)).alloc (Obj.cells #[.int .i64 kf, .slice (some ⟨bf, of, none⟩) 2 cf] 25)).alloc (Obj.cells #[.int .i64 kt, .slice (some ⟨bt, ot, none⟩) 2 ct] 25))).heap.size (((w.alloc (Obj.cells #[.int .i64 2, .int .i64 0, .int .i64 0, .slice (some ⟨bc, oc, none⟩) 2 cc] 30)).alloc (Obj.cells #[.int .i64 kf, .slice (some ⟨bf, of, none⟩) 2 cf] 25)).alloc (Obj.cells #[.int .i64 kt, .slice (some ⟨bt, ot, none⟩) 2 ct] 25)) w' ∧ w'.cell? ⟨w.heap.size, 0, none⟩ = some (.int .i64 2) ∧ w'.cell? ⟨w.heap.size, 1, none⟩ = some (.int .i64 0) ∧ w'.cell? ⟨w.heap.size, 2, none⟩ = some (.int .i64 0) ∧ w'.cell? ⟨w.heap.size, 3, none⟩ = some (.slice (some ⟨bc, oc, none⟩) 2 cc) ∧ w'.cell? ⟨w.heap.size + 1, 0, none⟩ = some (.int .i64 kf) ∧ w'.cell? ⟨w.heap.size + 1, 1, none⟩ = some (.slice (some ⟨bf, of, none⟩) 2 cf) ∧ w'.cell? ⟨w.heap.size + 1 + 1, 0, none⟩ = some (.int .i64 kt) ∧ w'.cell? ⟨w.heap.size + 1 + 1, 1, none⟩ = some (.slice (some ⟨bt, ot, none⟩) 2 ct) ∧ w'.cell? ⟨bc, oc, none⟩ = some (.int .i64 ka) ∧ w'.cell? ⟨bc, oc + 1, none⟩ = some (.int .i64 ga) ∧ w'.cell? ⟨bc, oc + 2, none⟩ = some (.int .i64 la) ∧ w'.cell? ⟨bc, oc + 3, none⟩ = some (.slice aa na ca) ∧ w'.cell? ⟨bc, oc + 4, none⟩ = some (.int .i64 kb) ∧ w'.cell? ⟨bc, oc + 4 + 1, none⟩ = some (.int .i64 gb) ∧ w'.cell? ⟨bc, oc + 4 + 2, none⟩ = some (.int .i64 lb) ∧ w'.cell? ⟨bc, oc + 4 + 3, none⟩ = some (.slice ab nb cb) ∧ w'.cell? ⟨bf, of, none⟩ = some (.int .i64 k1) ∧ w'.cell? ⟨bf, of + 1, none⟩ = some (.slice a1 n1 c1) ∧ w'.cell? ⟨bf, of + 2, none⟩ = some (.int .i64 k2) ∧ w'.cell? ⟨bf, of + 2 + 1, none⟩ = some (.slice a2 n2 c2) ∧ w'.cell? ⟨bt, ot, none⟩ = some (.int .i64 k3) ∧ w'.cell? ⟨bt, ot + 1, none⟩ = some (.slice a3 n3 c3) ∧ w'.cell? ⟨bt, ot + 2, none⟩ = some (.int .i64 k4) ∧ w'.cell? ⟨bt, ot + 2 + 1, none⟩ = some (.slice a4 n4 c4))) (by kernel_rfl) ?_ (fun hS0 => ?_)
    · (refine (fun hB => ⟨hB, cell_keep xC0 hB, cell_keep xC1 hB, cell_keep xC2 hB, cell_keep xC3 hB, cell_keep xF0 hB, cell_keep xF1 hB, cell_keep xT0 hB, cell_keep xT1 hB, cell_keep d0 hB, cell_keep d1 hB, cell_keep d2 hB, cell_keep d3 hB, cell_keep e0 hB, cell_keep e1 hB, cell_keep e2 hB, cell_keep e3 hB, cell_keep u0 hB, cell_keep u1 hB, cell_keep u2 hB, cell_keep u3 hB, cell_keep v0 hB, cell_keep v1 hB, cell_keep v2 hB, cell_keep v3 hB⟩ : Below ((((w.alloc (Obj.cells #[.int .i64 2, .int .i64 0, .int .i64 0, .slice (some ⟨bc, oc, none⟩) 2 cc] 30)).alloc (Obj.cells #[.int .i64 kf, .slice (some ⟨bf, of, none⟩) 2 cf] 25)).alloc (Obj.cells #[.int .i64 kt, .slice (some ⟨bt, ot, none⟩) 2 ct] 25))).heap.size (((w.alloc (Obj.cells #[.int .i64 2, .int .i64 0, .int .i64 0, .slice (some ⟨bc, oc, none⟩) 2 cc] 30)).alloc (Obj.cells #[.int .i64 kf, .slice (some ⟨bf, of, none⟩) 2 cf] 25)).alloc (Obj.cells #[.int .i64 kt, .slice (some ⟨bt, ot, none⟩) 2 ct] 25)) _ → _) ?_; exact below_drew _)
    refine regTake (i := 0) (v := ?vn4_0) rfl (by kernel_rfl) (by kernel_rfl) (by kernel_rfl) (fun _ _ _ h => h) (Or.inl ⟨by rfl, ?hyn4_0⟩) (by assumption) ?_
    case hyn4_0 => (intro w hSw; (try dsimp only at hSw); go_simp; (try with_reducible rfl))
    try simp only [Act.put, List.setIfInBounds_toArray, List.set_cons_zero, List.set_cons_succ]
    refine regTake (i := 1) (v := ?vn4_1) rfl (by kernel_rfl) (by kernel_rfl) (by kernel_rfl) (fun _ _ _ h => h) (Or.inl ⟨by rfl, ?hyn4_1⟩) (by assumption) ?_
    case hyn4_1 => (intro w hSw; (try dsimp only at hSw); go_simp; (try with_reducible rfl))
    try simp only [Act.put, List.setIfInBounds_toArray, List.set_cons_zero, List.set_cons_succ]
    refine regTake (i := 2) (v := ?vn4_2) rfl (by kernel_rfl) (by kernel_rfl) (by kernel_rfl) (fun _ _ _ h => h) (Or.inl ⟨by rfl, ?hyn4_2⟩) (by assumption) ?_
    case hyn4_2 => (intro w hSw; (try dsimp only at hSw); go_simp; (try with_reducible rfl))
    try simp only [Act.put, List.setIfInBounds_toArray, List.set_cons_zero, List.set_cons_succ]
    refine regTake (i := 3) (v := ?vn4_3) rfl (by kernel_rfl) (by kernel_rfl) (by kernel_rfl) (fun _ _ _ h => h) (Or.inl ⟨by rfl, ?hyn4_3⟩) (by assumption) ?_
    case hyn4_3 => (intro w hSw; (try dsimp only at hSw); go_simp; (try with_reducible rfl))
    try simp only [Act.put, List.setIfInBounds_toArray, List.set_cons_zero, List.set_cons_succ]
    refine regTake (i := 4) (v := ?vn4_4) rfl (by kernel_rfl) (by kernel_rfl) (by kernel_rfl) (fun _ _ _ h => h) (Or.inl ⟨by rfl, ?hyn4_4⟩) (by assumption) ?_
    case hyn4_4 => (intro w hSw; (try dsimp only at hSw); go_simp; (try with_reducible rfl))
    try simp only [Act.put, List.setIfInBounds_toArray, List.set_cons_zero, List.set_cons_succ]
    refine regTake (i := 5) (v := ?vn4_5) rfl (by kernel_rfl) (by kernel_rfl) (by kernel_rfl) (fun _ _ _ h => h) (Or.inl ⟨by rfl, ?hyn4_5⟩) (by assumption) ?_
    case hyn4_5 => (intro w hSw; (try dsimp only at hSw); go_simp; (try with_reducible rfl))
    try simp only [Act.put, List.setIfInBounds_toArray, List.set_cons_zero, List.set_cons_succ]
    refine regTake (i := 6) (v := ?vn4_6) rfl (by kernel_rfl) (by kernel_rfl) (by kernel_rfl) (fun _ _ _ h => h) (Or.inl ⟨by rfl, ?hyn4_6⟩) (by assumption) ?_
    case hyn4_6 => (intro w hSw; (try dsimp only at hSw); go_simp; (try with_reducible rfl))
    try simp only [Act.put, List.setIfInBounds_toArray, List.set_cons_zero, List.set_cons_succ]
    refine regTake (i := 7) (v := .bool true) rfl (by kernel_rfl) (by kernel_rfl) (by kernel_rfl) (fun _ _ _ h => h) (Or.inl ⟨by rfl, ?hyn4_7⟩) (by assumption) ?_
    case hyn4_7 => (intro w hSw; (try dsimp only at hSw); go_simp; (try with_reducible rfl))
    try simp only [Act.put, List.setIfInBounds_toArray, List.set_cons_zero, List.set_cons_succ]
    refine regTake (i := 8) (v := ?vn4_8) rfl (by kernel_rfl) (by kernel_rfl) (by kernel_rfl) (fun _ _ _ h => h) (Or.inl ⟨by rfl, ?hyn4_8⟩) (by assumption) ?_
    case hyn4_8 => (intro w hSw; (try dsimp only at hSw); go_simp; (try with_reducible rfl))
    try simp only [Act.put, List.setIfInBounds_toArray, List.set_cons_zero, List.set_cons_succ]
    refine regTake (i := 9) (v := ?vn4_9) rfl (by kernel_rfl) (by kernel_rfl) (by kernel_rfl) (fun _ _ _ h => h) (Or.inl ⟨by rfl, ?hyn4_9⟩) (by assumption) ?_
    case hyn4_9 => (intro w hSw; (try dsimp only at hSw); go_simp; (try with_reducible rfl))
    try simp only [Act.put, List.setIfInBounds_toArray, List.set_cons_zero, List.set_cons_succ]
    refine regTake (i := 10) (v := ?vn4_10) rfl (by kernel_rfl) (by kernel_rfl) (by kernel_rfl) (fun _ _ _ h => h) (Or.inl ⟨by rfl, ?hyn4_10⟩) (by assumption) ?_
    case hyn4_10 => (intro w hSw; (try dsimp only at hSw); go_simp; (try with_reducible rfl))
    try simp only [Act.put, List.setIfInBounds_toArray, List.set_cons_zero, List.set_cons_succ]
    refine regTake (i := 11) (v := ?vn4_11) rfl (by kernel_rfl) (by kernel_rfl) (by kernel_rfl) (fun _ _ _ h => h) (Or.inl ⟨by rfl, ?hyn4_11⟩) (by assumption) ?_
    case hyn4_11 => (intro w hSw; (try dsimp only at hSw); go_simp; (try with_reducible rfl))
    try simp only [Act.put, List.setIfInBounds_toArray, List.set_cons_zero, List.set_cons_succ]
    refine regTake (i := 12) (v := ?vn4_12) rfl (by kernel_rfl) (by kernel_rfl) (by kernel_rfl) (fun _ _ _ h => h) (Or.inl ⟨by rfl, ?hyn4_12⟩) (by assumption) ?_
    case hyn4_12 => (intro w hSw; (try dsimp only at hSw); go_simp; (try with_reducible rfl))
    try simp only [Act.put, List.setIfInBounds_toArray, List.set_cons_zero, List.set_cons_succ]
    refine regTake (i := 13) (v := ?vn4_13) rfl (by kernel_rfl) (by kernel_rfl) (by kernel_rfl) (fun _ _ _ h => h) (Or.inl ⟨by rfl, ?hyn4_13⟩) (by assumption) ?_
    case hyn4_13 => (intro w hSw; (try dsimp only at hSw); go_simp; (try with_reducible rfl))
    try simp only [Act.put, List.setIfInBounds_toArray, List.set_cons_zero, List.set_cons_succ]
    refine regTake (i := 14) (v := ?vn4_14) rfl (by kernel_rfl) (by kernel_rfl) (by kernel_rfl) (fun _ _ _ h => h) (Or.inl ⟨by rfl, ?hyn4_14⟩) (by assumption) ?_
    case hyn4_14 => (intro w hSw; (try dsimp only at hSw); go_simp; (try with_reducible rfl))
    try simp only [Act.put, List.setIfInBounds_toArray, List.set_cons_zero, List.set_cons_succ]
    refine regTake (i := 15) (v := ?vn4_15) rfl (by kernel_rfl) (by kernel_rfl) (by kernel_rfl) (fun _ _ _ h => h) (Or.inl ⟨by rfl, ?hyn4_15⟩) (by assumption) ?_
    case hyn4_15 => (intro w hSw; (try dsimp only at hSw); go_simp; (try with_reducible rfl))
    try simp only [Act.put, List.setIfInBounds_toArray, List.set_cons_zero, List.set_cons_succ]
    refine regTake (i := 16) (v := ?vn4_16) rfl (by kernel_rfl) (by kernel_rfl) (by kernel_rfl) (fun _ _ _ h => h) (Or.inl ⟨by rfl, ?hyn4_16⟩) (by assumption) ?_
    case hyn4_16 => (intro w hSw; (try dsimp only at hSw); go_simp; (try with_reducible rfl))
    try simp only [Act.put, List.setIfInBounds_toArray, List.set_cons_zero, List.set_cons_succ]
    refine regTake (i := 17) (v := ?vn4_17) rfl (by kernel_rfl) (by kernel_rfl) (by kernel_rfl) (fun _ _ _ h => h) (Or.inl ⟨by rfl, ?hyn4_17⟩) (by assumption) ?_
    case hyn4_17 => (intro w hSw; (try dsimp only at hSw); go_simp; (try with_reducible rfl))
    try simp only [Act.put, List.setIfInBounds_toArray, List.set_cons_zero, List.set_cons_succ]
    refine regTake (i := 18) (v := ?vn4_18) rfl (by kernel_rfl) (by kernel_rfl) (by kernel_rfl) (fun _ _ _ h => h) (Or.inl ⟨by rfl, ?hyn4_18⟩) (by assumption) ?_
    case hyn4_18 => (intro w hSw; (try dsimp only at hSw); go_simp; (try with_reducible rfl))
    try simp only [Act.put, List.setIfInBounds_toArray, List.set_cons_zero, List.set_cons_succ]
    refine regTake (i := 19) (v := ?vn4_19) rfl (by kernel_rfl) (by kernel_rfl) (by kernel_rfl) (fun _ _ _ h => h) (Or.inl ⟨by rfl, ?hyn4_19⟩) (by assumption) ?_
    case hyn4_19 => (intro w hSw; (try dsimp only at hSw); go_simp; (try with_reducible rfl))
    try simp only [Act.put, List.setIfInBounds_toArray, List.set_cons_zero, List.set_cons_succ]
    refine regTake (i := 20) (v := ?vn4_20) rfl (by kernel_rfl) (by kernel_rfl) (by kernel_rfl) (fun _ _ _ h => h) (Or.inl ⟨by rfl, ?hyn4_20⟩) (by assumption) ?_
    case hyn4_20 => (intro w hSw; (try dsimp only at hSw); go_simp; (try with_reducible rfl))
    try simp only [Act.put, List.setIfInBounds_toArray, List.set_cons_zero, List.set_cons_succ]
    refine wpAnyH_ready (rs := [21]) (by kernel_rfl) (by simp) ?_
    refine regCons rfl (fun K hK => ?_)
    go_simp
    refine (HIH.out a t1 f1 _ _ _ _ _ _ _ HP.out.1 HP.out.2.2.2.2.1 HP.out.2.2.1 (H.out.1.below (below_drew _)) (H.out.2.2.2.2.1.below (below_drew _)) (H.out.2.2.1.below (below_drew _))).mono ?_
    rw [HV.out]
    rintro e w1 ⟨rfl, hb1⟩
    have hk0 := below_trans (below_drew (((w.alloc (Obj.cells #[.int .i64 2, .int .i64 0, .int .i64 0, .slice (some ⟨bc, oc, none⟩) 2 cc] 30)).alloc (Obj.cells #[.int .i64 kf, .slice (some ⟨bf, of, none⟩) 2 cf] 25)).alloc (Obj.cells #[.int .i64 kt, .slice (some ⟨bt, ot, none⟩) 2 ct] 25))) hb1
    refine hK.out _ _ ?_ (fun hS1 => ?_)
    · (refine (fun hB => ⟨hB, cell_keep xC0 hB, cell_keep xC1 hB, cell_keep xC2 hB, cell_keep xC3 hB, cell_keep xF0 hB, cell_keep xF1 hB, cell_keep xT0 hB, cell_keep xT1 hB, cell_keep d0 hB, cell_keep d1 hB, cell_keep d2 hB, cell_keep d3 hB, cell_keep e0 hB, cell_keep e1 hB, cell_keep e2 hB, cell_keep e3 hB, cell_keep u0 hB, cell_keep u1 hB, cell_keep u2 hB, cell_keep u3 hB, cell_keep v0 hB, cell_keep v1 hB, cell_keep v2 hB, cell_keep v3 hB⟩ : Below ((((w.alloc (Obj.cells #[.int .i64 2, .int .i64 0, .int .i64 0, .slice (some ⟨bc, oc, none⟩) 2 cc] 30)).alloc (Obj.cells #[.int .i64 kf, .slice (some ⟨bf, of, none⟩) 2 cf] 25)).alloc (Obj.cells #[.int .i64 kt, .slice (some ⟨bt, ot, none⟩) 2 ct] 25))).heap.size (((w.alloc (Obj.cells #[.int .i64 2, .int .i64 0, .int .i64 0, .slice (some ⟨bc, oc, none⟩) 2 cc] 30)).alloc (Obj.cells #[.int .i64 kf, .slice (some ⟨bf, of, none⟩) 2 cf] 25)).alloc (Obj.cells #[.int .i64 kt, .slice (some ⟨bt, ot, none⟩) 2 ct] 25)) _ → _) ?_; exact hk0)
    clear hK K hS0
    try simp only [Act.put, List.setIfInBounds_toArray, List.set_cons_zero, List.set_cons_succ]
    refine regTake (i := 22) (v := .bool true) rfl (by kernel_rfl) (by kernel_rfl) (by kernel_rfl) (fun _ _ _ h => h) (Or.inl ⟨by rfl, ?hyn4_22⟩) (by assumption) ?_
    case hyn4_22 => (intro w hSw; (try dsimp only at hSw); go_simp; (try with_reducible rfl))
    try simp only [Act.put, List.setIfInBounds_toArray, List.set_cons_zero, List.set_cons_succ]
    refine regTake (i := 23) (v := ?vn4_23) rfl (by kernel_rfl) (by kernel_rfl) (by kernel_rfl) (fun _ _ _ h => h) (Or.inl ⟨by rfl, ?hyn4_23⟩) (by assumption) ?_
    case hyn4_23 => (intro w hSw; (try dsimp only at hSw); go_simp; (try with_reducible rfl))
    try simp only [Act.put, List.setIfInBounds_toArray, List.set_cons_zero, List.set_cons_succ]
    refine regTake (i := 24) (v := ?vn4_24) rfl (by kernel_rfl) (by kernel_rfl) (by kernel_rfl) (fun _ _ _ h => h) (Or.inl ⟨by rfl, ?hyn4_24⟩) (by assumption) ?_
    case hyn4_24 => (intro w hSw; (try dsimp only at hSw); go_simp; (try with_reducible rfl))
    try simp only [Act.put, List.setIfInBounds_toArray, List.set_cons_zero, List.set_cons_succ]
    refine regTake (i := 25) (v := ?vn4_25) rfl (by kernel_rfl) (by kernel_rfl) (by kernel_rfl) (fun _ _ _ h => h) (Or.inl ⟨by rfl, ?hyn4_25⟩) (by assumption) ?_
    case hyn4_25 => (intro w hSw; (try dsimp only at hSw); go_simp; (try with_reducible rfl))
    try simp only [Act.put, List.setIfInBounds_toArray, List.set_cons_zero, List.set_cons_succ]
    refine regTake (i := 26) (v := ?vn4_26) rfl (by kernel_rfl) (by kernel_rfl) (by kernel_rfl) (fun _ _ _ h => h) (Or.inl ⟨by rfl, ?hyn4_26⟩) (by assumption) ?_
    case hyn4_26 => (intro w hSw; (try dsimp only at hSw); go_simp; (try with_reducible rfl))
    try simp only [Act.put, List.setIfInBounds_toArray, List.set_cons_zero, List.set_cons_succ]
    refine regTake (i := 27) (v := ?vn4_27) rfl (by kernel_rfl) (by kernel_rfl) (by kernel_rfl) (fun _ _ _ h => h) (Or.inl ⟨by rfl, ?hyn4_27⟩) (by assumption) ?_
    case hyn4_27 => (intro w hSw; (try dsimp only at hSw); go_simp; (try with_reducible rfl))
    try simp only [Act.put, List.setIfInBounds_toArray, List.set_cons_zero, List.set_cons_succ]
    refine regTake (i := 28) (v := ?vn4_28) rfl (by kernel_rfl) (by kernel_rfl) (by kernel_rfl) (fun _ _ _ h => h) (Or.inl ⟨by rfl, ?hyn4_28⟩) (by assumption) ?_
    case hyn4_28 => (intro w hSw; (try dsimp only at hSw); go_simp; (try with_reducible rfl))
    try simp only [Act.put, List.setIfInBounds_toArray, List.set_cons_zero, List.set_cons_succ]
    refine regTake (i := 29) (v := ?vn4_29) rfl (by kernel_rfl) (by kernel_rfl) (by kernel_rfl) (fun _ _ _ h => h) (Or.inl ⟨by rfl, ?hyn4_29⟩) (by assumption) ?_
    case hyn4_29 => (intro w hSw; (try dsimp only at hSw); go_simp; (try with_reducible rfl))
    try simp only [Act.put, List.setIfInBounds_toArray, List.set_cons_zero, List.set_cons_succ]
    refine regTake (i := 30) (v := ?vn4_30) rfl (by kernel_rfl) (by kernel_rfl) (by kernel_rfl) (fun _ _ _ h => h) (Or.inl ⟨by rfl, ?hyn4_30⟩) (by assumption) ?_
    case hyn4_30 => (intro w hSw; (try dsimp only at hSw); go_simp; (try with_reducible rfl))
    try simp only [Act.put, List.setIfInBounds_toArray, List.set_cons_zero, List.set_cons_succ]
    refine regTake (i := 31) (v := ?vn4_31) rfl (by kernel_rfl) (by kernel_rfl) (by kernel_rfl) (fun _ _ _ h => h) (Or.inl ⟨by rfl, ?hyn4_31⟩) (by assumption) ?_
    case hyn4_31 => (intro w hSw; (try dsimp only at hSw); go_simp; (try with_reducible rfl))
    try simp only [Act.put, List.setIfInBounds_toArray, List.set_cons_zero, List.set_cons_succ]
    refine regTake (i := 32) (v := ?vn4_32) rfl (by kernel_rfl) (by kernel_rfl) (by kernel_rfl) (fun _ _ _ h => h) (Or.inl ⟨by rfl, ?hyn4_32⟩) (by assumption) ?_
    case hyn4_32 => (intro w hSw; (try dsimp only at hSw); go_simp; (try with_reducible rfl))
    try simp only [Act.put, List.setIfInBounds_toArray, List.set_cons_zero, List.set_cons_succ]
    refine regTake (i := 33) (v := ?vn4_33) rfl (by kernel_rfl) (by kernel_rfl) (by kernel_rfl) (fun _ _ _ h => h) (Or.inl ⟨by rfl, ?hyn4_33⟩) (by assumption) ?_
    case hyn4_33 => (intro w hSw; (try dsimp only at hSw); go_simp; (try with_reducible rfl))
    try simp only [Act.put, List.setIfInBounds_toArray, List.set_cons_zero, List.set_cons_succ]
    refine regTake (i := 34) (v := ?vn4_34) rfl (by kernel_rfl) (by kernel_rfl) (by kernel_rfl) (fun _ _ _ h => h) (Or.inl ⟨by rfl, ?hyn4_34⟩) (by assumption) ?_
    case hyn4_34 => (intro w hSw; (try dsimp only at hSw); go_simp; (try with_reducible rfl))
    try simp only [Act.put, List.setIfInBounds_toArray, List.set_cons_zero, List.set_cons_succ]
    refine regTake (i := 35) (v := ?vn4_35) rfl (by kernel_rfl) (by kernel_rfl) (by kernel_rfl) (fun _ _ _ h => h) (Or.inl ⟨by rfl, ?hyn4_35⟩) (by assumption) ?_
    case hyn4_35 => (intro w hSw; (try dsimp only at hSw); go_simp; (try with_reducible rfl))
    try simp only [Act.put, List.setIfInBounds_toArray, List.set_cons_zero, List.set_cons_succ]
    refine wpAnyH_ready (rs := [36]) (by kernel_rfl) (by simp) ?_
    refine regCons rfl (fun K hK => ?_)
    go_simp
    refine (HIH.out b f2 t2 _ _ _ _ _ _ _ HP.out.2.1 HP.out.2.2.2.1 HP.out.2.2.2.2.2 (H.out.2.1.below hk0) (H.out.2.2.2.1.below hk0) (H.out.2.2.2.2.2.below hk0)).mono ?_
    rw [HV2.out]
    rintro e w2 ⟨rfl, hb2⟩
    have hk1 := below_trans hk0 hb2
    refine hK.out _ _ ?_ (fun hS2 => ?_)
    · (refine (fun hB => ⟨hB, cell_keep xC0 hB, cell_keep xC1 hB, cell_keep xC2 hB, cell_keep xC3 hB, cell_keep xF0 hB, cell_keep xF1 hB, cell_keep xT0 hB, cell_keep xT1 hB, cell_keep d0 hB, cell_keep d1 hB, cell_keep d2 hB, cell_keep d3 hB, cell_keep e0 hB, cell_keep e1 hB, cell_keep e2 hB, cell_keep e3 hB, cell_keep u0 hB, cell_keep u1 hB, cell_keep u2 hB, cell_keep u3 hB, cell_keep v0 hB, cell_keep v1 hB, cell_keep v2 hB, cell_keep v3 hB⟩ : Below ((((w.alloc (Obj.cells #[.int .i64 2, .int .i64 0, .int .i64 0, .slice (some ⟨bc, oc, none⟩) 2 cc] 30)).alloc (Obj.cells #[.int .i64 kf, .slice (some ⟨bf, of, none⟩) 2 cf] 25)).alloc (Obj.cells #[.int .i64 kt, .slice (some ⟨bt, ot, none⟩) 2 ct] 25))).heap.size (((w.alloc (Obj.cells #[.int .i64 2, .int .i64 0, .int .i64 0, .slice (some ⟨bc, oc, none⟩) 2 cc] 30)).alloc (Obj.cells #[.int .i64 kf, .slice (some ⟨bf, of, none⟩) 2 cf] 25)).alloc (Obj.cells #[.int .i64 kt, .slice (some ⟨bt, ot, none⟩) 2 ct] 25)) _ → _) ?_; exact hk1)
    clear hK K hS1
    try simp only [Act.put, List.setIfInBounds_toArray, List.set_cons_zero, List.set_cons_succ]
    refine regTake (i := 37) (v := .bool r) rfl (by kernel_rfl) (by kernel_rfl) (by kernel_rfl) (fun _ _ _ h => h) (Or.inl ⟨by rfl, ?hyn4_37⟩) (by assumption) ?_
    case hyn4_37 => (intro w hSw; (try dsimp only at hSw); go_simp; (try with_reducible rfl))
    try simp only [Act.put, List.setIfInBounds_toArray, List.set_cons_zero, List.set_cons_succ]
    refine regTake (i := 38) (v := ?vn4_38) rfl (by kernel_rfl) (by kernel_rfl) (by kernel_rfl) (fun _ _ _ h => h) (Or.inl ⟨by rfl, ?hyn4_38⟩) (by assumption) ?_
    case hyn4_38 => (intro w hSw; (try dsimp only at hSw); go_simp; (try with_reducible rfl))
    try simp only [Act.put, List.setIfInBounds_toArray, List.set_cons_zero, List.set_cons_succ]
    refine wpAnyH_done (by kernel_rfl) ?_ _
    go_wp2_with fail
    go_ret
    exact ⟨ret_b HT.out.symm, below_trans hb0 (hk1)⟩

set_option maxRecDepth 100000 in
set_option maxHeartbeats 4000000 in
theorem leads_two3 (n : Nat) (ih : LdC n) (a b : Co) (f t : Ty) (vc vf vt : Value) (fc ff ft : List Nat) (w : World) (hsa : shpK n a = true) (hsb : shpK n b = true) (hf4 : shp 4 f = true) (ht4 : shp 4 t = true) (hatc : (Co.mk 3 0 0 [a, b]).At w vc fc) (hatf : f.At w vf ff) (hatt : t.At w vt ft) :
    Calls Try.prog 51 #[vc, vf, vt] w fun e w' => e = .returned (.bool (typC (n + 1) (.mk 3 0 0 [a, b]) f t)) ∧ Below w.heap.size w w' := by
  obtain ⟨sc, rfl, hsc⟩ := Co.at_mk.1 hatc
  obtain ⟨bc, oc, cc, ka, ga, la, na, aa, ca, kb, gb, lb, nb, ab, cb, fa, fb, rfl, hbc, d0, d1, d2, d3, e0, e1, e2, e3, hA, hB, _, hcc⟩ := hsc.two
  obtain ⟨kf, fs, rfl⟩ := f.shape
  obtain ⟨kt, ts, rfl⟩ := t.shape
  obtain ⟨sf, rfl, hsf⟩ := Ty.at_mk.1 hatf
  obtain ⟨st, rfl, hst⟩ := Ty.at_mk.1 hatt
  by_cases hk : kf = 5
  case neg =>
    have HT := hid (show typC (n + 1) (.mk 3 0 0 [a, b]) (.mk kf fs) (.mk kt ts) = false by
      have e1 : (kf == 5) = false := by simpa using hk
      simp only [typC]
      simp
      split <;> simp [kindT, hk])
    obtain ⟨af, cf, rfl⟩ := hsf.shape
    obtain ⟨at', ct, rfl⟩ := hst.shape
    generalize fs.length = nf at *
    generalize ts.length = nt at *
    have q1 : (kf == 5) = false := by simpa using hk
    have hb0 : Below w.heap.size w (((w.alloc (Obj.cells #[.int .i64 3, .int .i64 0, .int .i64 0, .slice (some ⟨bc, oc, none⟩) 2 cc] 30)).alloc (Obj.cells #[.int .i64 kf, .slice af nf cf] 25)).alloc (Obj.cells #[.int .i64 kt, .slice at' nt ct] 25)) := (((Below.refl _ _).alloc (Nat.le_refl _) _).alloc (by simp) _).alloc (by simp; omega) _
    obtain ⟨bC, bF, bT⟩ := three3 (Below.refl ((((w.alloc (Obj.cells #[.int .i64 3, .int .i64 0, .int .i64 0, .slice (some ⟨bc, oc, none⟩) 2 cc] 30)).alloc (Obj.cells #[.int .i64 kf, .slice af nf cf] 25)).alloc (Obj.cells #[.int .i64 kt, .slice at' nt ct] 25))).heap.size (((w.alloc (Obj.cells #[.int .i64 3, .int .i64 0, .int .i64 0, .slice (some ⟨bc, oc, none⟩) 2 cc] 30)).alloc (Obj.cells #[.int .i64 kf, .slice af nf cf] 25)).alloc (Obj.cells #[.int .i64 kt, .slice at' nt ct] 25)))
    have xC0 : ((((w.alloc (Obj.cells #[.int .i64 3, .int .i64 0, .int .i64 0, .slice (some ⟨bc, oc, none⟩) 2 cc] 30)).alloc (Obj.cells #[.int .i64 kf, .slice af nf cf] 25)).alloc (Obj.cells #[.int .i64 kt, .slice at' nt ct] 25))).cell? ⟨w.heap.size, 0, none⟩ = some (.int .i64 3) := by rw [cell_of_block bC]; rfl
    have xC1 : ((((w.alloc (Obj.cells #[.int .i64 3, .int .i64 0, .int .i64 0, .slice (some ⟨bc, oc, none⟩) 2 cc] 30)).alloc (Obj.cells #[.int .i64 kf, .slice af nf cf] 25)).alloc (Obj.cells #[.int .i64 kt, .slice at' nt ct] 25))).cell? ⟨w.heap.size, 1, none⟩ = some (.int .i64 0) := by rw [cell_of_block bC]; rfl
    have xC2 : ((((w.alloc (Obj.cells #[.int .i64 3, .int .i64 0, .int .i64 0, .slice (some ⟨bc, oc, none⟩) 2 cc] 30)).alloc (Obj.cells #[.int .i64 kf, .slice af nf cf] 25)).alloc (Obj.cells #[.int .i64 kt, .slice at' nt ct] 25))).cell? ⟨w.heap.size, 2, none⟩ = some (.int .i64 0) := by rw [cell_of_block bC]; rfl
    have xC3 : ((((w.alloc (Obj.cells #[.int .i64 3, .int .i64 0, .int .i64 0, .slice (some ⟨bc, oc, none⟩) 2 cc] 30)).alloc (Obj.cells #[.int .i64 kf, .slice af nf cf] 25)).alloc (Obj.cells #[.int .i64 kt, .slice at' nt ct] 25))).cell? ⟨w.heap.size, 3, none⟩ = some (.slice (some ⟨bc, oc, none⟩) 2 cc) := by rw [cell_of_block bC]; rfl
    have xF0 : ((((w.alloc (Obj.cells #[.int .i64 3, .int .i64 0, .int .i64 0, .slice (some ⟨bc, oc, none⟩) 2 cc] 30)).alloc (Obj.cells #[.int .i64 kf, .slice af nf cf] 25)).alloc (Obj.cells #[.int .i64 kt, .slice at' nt ct] 25))).cell? ⟨w.heap.size + 1, 0, none⟩ = some (.int .i64 kf) := by rw [cell_of_block bF]; rfl
    have xF1 : ((((w.alloc (Obj.cells #[.int .i64 3, .int .i64 0, .int .i64 0, .slice (some ⟨bc, oc, none⟩) 2 cc] 30)).alloc (Obj.cells #[.int .i64 kf, .slice af nf cf] 25)).alloc (Obj.cells #[.int .i64 kt, .slice at' nt ct] 25))).cell? ⟨w.heap.size + 1, 1, none⟩ = some (.slice af nf cf) := by rw [cell_of_block bF]; rfl
    have xT0 : ((((w.alloc (Obj.cells #[.int .i64 3, .int .i64 0, .int .i64 0, .slice (some ⟨bc, oc, none⟩) 2 cc] 30)).alloc (Obj.cells #[.int .i64 kf, .slice af nf cf] 25)).alloc (Obj.cells #[.int .i64 kt, .slice at' nt ct] 25))).cell? ⟨w.heap.size + 1 + 1, 0, none⟩ = some (.int .i64 kt) := by rw [cell_of_block bT]; rfl
    have xT1 : ((((w.alloc (Obj.cells #[.int .i64 3, .int .i64 0, .int .i64 0, .slice (some ⟨bc, oc, none⟩) 2 cc] 30)).alloc (Obj.cells #[.int .i64 kf, .slice af nf cf] 25)).alloc (Obj.cells #[.int .i64 kt, .slice at' nt ct] 25))).cell? ⟨w.heap.size + 1 + 1, 1, none⟩ = some (.slice at' nt ct) := by rw [cell_of_block bT]; rfl
    clear bC bF bT
    clear hatc hatf hatt hsc hsf hst hA hB d0 d1 d2 d3 e0 e1 e2 e3 ih
    go_enter Try.func51, Try.ntmps51
    go_wp2_with fail
    refine wp_region_held_drew (S := (fun w' => Below ((((w.alloc (Obj.cells #[.int .i64 3, .int .i64 0, .int .i64 0, .slice (some ⟨bc, oc, none⟩) 2 cc] 30)).alloc (Obj.cells #[.int .i64 kf, .slice af nf cf] 25)).alloc (Obj.cells #[.int .i64 kt, .slice at' nt ct] 25))).heap.size (((w.alloc (Obj.cells #[.int .i64 3, .int .i64 0, .int .i64 0, .slice (some ⟨bc, oc, none⟩) 2 cc] 30)).alloc (Obj.cells #[.int .i64 kf, .slice af nf cf] 25)).alloc (Obj.cells #[.int .i64 kt, .slice at' nt ct] 25)) w' ∧ w'.cell? ⟨w.heap.size, 0, none⟩ = some (.int .i64 3) ∧ w'.cell? ⟨w.heap.size, 1, none⟩ = some (.int .i64 0) ∧ w'.cell? ⟨w.heap.size, 2, none⟩ = some (.int .i64 0) ∧ w'.cell? ⟨w.heap.size, 3, none⟩ = some (.slice (some ⟨bc, oc, none⟩) 2 cc) ∧ w'.cell? ⟨w.heap.size + 1, 0, none⟩ = some (.int .i64 kf) ∧ w'.cell? ⟨w.heap.size + 1, 1, none⟩ = some (.slice af nf cf) ∧ w'.cell? ⟨w.heap.size + 1 + 1, 0, none⟩ = some (.int .i64 kt) ∧ w'.cell? ⟨w.heap.size + 1 + 1, 1, none⟩ = some (.slice at' nt ct))) (by kernel_rfl) ?_ (fun hS0 => ?_)
    · (refine (fun hB => ⟨hB, cell_keep xC0 hB, cell_keep xC1 hB, cell_keep xC2 hB, cell_keep xC3 hB, cell_keep xF0 hB, cell_keep xF1 hB, cell_keep xT0 hB, cell_keep xT1 hB⟩ : Below ((((w.alloc (Obj.cells #[.int .i64 3, .int .i64 0, .int .i64 0, .slice (some ⟨bc, oc, none⟩) 2 cc] 30)).alloc (Obj.cells #[.int .i64 kf, .slice af nf cf] 25)).alloc (Obj.cells #[.int .i64 kt, .slice at' nt ct] 25))).heap.size (((w.alloc (Obj.cells #[.int .i64 3, .int .i64 0, .int .i64 0, .slice (some ⟨bc, oc, none⟩) 2 cc] 30)).alloc (Obj.cells #[.int .i64 kf, .slice af nf cf] 25)).alloc (Obj.cells #[.int .i64 kt, .slice at' nt ct] 25)) _ → _) ?_; exact below_drew _)
    refine regTake (i := 0) (v := ?vn5_0) rfl (by kernel_rfl) (by kernel_rfl) (by kernel_rfl) (fun _ _ _ h => h) (Or.inl ⟨by rfl, ?hyn5_0⟩) (by assumption) ?_
    case hyn5_0 => (intro w hSw; (try dsimp only at hSw); go_simp; (try with_reducible rfl))
    try simp only [Act.put, List.setIfInBounds_toArray, List.set_cons_zero, List.set_cons_succ]
    refine regTake (i := 1) (v := ?vn5_1) rfl (by kernel_rfl) (by kernel_rfl) (by kernel_rfl) (fun _ _ _ h => h) (Or.inl ⟨by rfl, ?hyn5_1⟩) (by assumption) ?_
    case hyn5_1 => (intro w hSw; (try dsimp only at hSw); go_simp; (try with_reducible rfl))
    try simp only [Act.put, List.setIfInBounds_toArray, List.set_cons_zero, List.set_cons_succ]
    refine regTake (i := 2) (v := ?vn5_2) rfl (by kernel_rfl) (by kernel_rfl) (by kernel_rfl) (fun _ _ _ h => h) (Or.inl ⟨by rfl, ?hyn5_2⟩) (by assumption) ?_
    case hyn5_2 => (intro w hSw; (try dsimp only at hSw); go_simp; (try with_reducible rfl))
    try simp only [Act.put, List.setIfInBounds_toArray, List.set_cons_zero, List.set_cons_succ]
    refine regTake (i := 3) (v := ?vn5_3) rfl (by kernel_rfl) (by kernel_rfl) (by kernel_rfl) (fun _ _ _ h => h) (Or.inl ⟨by rfl, ?hyn5_3⟩) (by assumption) ?_
    case hyn5_3 => (intro w hSw; (try dsimp only at hSw); go_simp; (try with_reducible rfl))
    try simp only [Act.put, List.setIfInBounds_toArray, List.set_cons_zero, List.set_cons_succ]
    refine regTake (i := 4) (v := undef) rfl (by kernel_rfl) (by kernel_rfl) (by kernel_rfl) (fun _ _ _ h => h) (Or.inr ⟨by rfl, rfl⟩) (by assumption) ?_
    try simp only [Act.put, List.setIfInBounds_toArray, List.set_cons_zero, List.set_cons_succ]
    refine regTake (i := 5) (v := undef) rfl (by kernel_rfl) (by kernel_rfl) (by kernel_rfl) (fun _ _ _ h => h) (Or.inr ⟨by rfl, rfl⟩) (by assumption) ?_
    try simp only [Act.put, List.setIfInBounds_toArray, List.set_cons_zero, List.set_cons_succ]
    refine regTake (i := 6) (v := undef) rfl (by kernel_rfl) (by kernel_rfl) (by kernel_rfl) (fun _ _ _ h => h) (Or.inr ⟨by rfl, rfl⟩) (by assumption) ?_
    try simp only [Act.put, List.setIfInBounds_toArray, List.set_cons_zero, List.set_cons_succ]
    refine regTake (i := 7) (v := .bool false) rfl (by kernel_rfl) (by kernel_rfl) (by kernel_rfl) (fun _ _ _ h => h) (Or.inl ⟨by rfl, ?hyn5_7⟩) (by assumption) ?_
    case hyn5_7 => (intro w hSw; (try dsimp only at hSw); go_simp; (try with_reducible rfl))
    try simp only [Act.put, List.setIfInBounds_toArray, List.set_cons_zero, List.set_cons_succ]
    refine regTake (i := 8) (v := ?vn5_8) rfl (by kernel_rfl) (by kernel_rfl) (by kernel_rfl) (fun _ _ _ h => h) (Or.inl ⟨by rfl, ?hyn5_8⟩) (by assumption) ?_
    case hyn5_8 => (intro w hSw; (try dsimp only at hSw); go_simp; (try with_reducible rfl))
    try simp only [Act.put, List.setIfInBounds_toArray, List.set_cons_zero, List.set_cons_succ]
    refine regTake (i := 9) (v := undef) rfl (by kernel_rfl) (by kernel_rfl) (by kernel_rfl) (fun _ _ _ h => h) (Or.inr ⟨by rfl, rfl⟩) (by assumption) ?_
    try simp only [Act.put, List.setIfInBounds_toArray, List.set_cons_zero, List.set_cons_succ]
    refine regTake (i := 10) (v := undef) rfl (by kernel_rfl) (by kernel_rfl) (by kernel_rfl) (fun _ _ _ h => h) (Or.inr ⟨by rfl, rfl⟩) (by assumption) ?_
    try simp only [Act.put, List.setIfInBounds_toArray, List.set_cons_zero, List.set_cons_succ]
    refine regTake (i := 11) (v := undef) rfl (by kernel_rfl) (by kernel_rfl) (by kernel_rfl) (fun _ _ _ h => h) (Or.inr ⟨by rfl, rfl⟩) (by assumption) ?_
    try simp only [Act.put, List.setIfInBounds_toArray, List.set_cons_zero, List.set_cons_succ]
    refine regTake (i := 12) (v := undef) rfl (by kernel_rfl) (by kernel_rfl) (by kernel_rfl) (fun _ _ _ h => h) (Or.inr ⟨by rfl, rfl⟩) (by assumption) ?_
    try simp only [Act.put, List.setIfInBounds_toArray, List.set_cons_zero, List.set_cons_succ]
    refine regTake (i := 13) (v := undef) rfl (by kernel_rfl) (by kernel_rfl) (by kernel_rfl) (fun _ _ _ h => h) (Or.inr ⟨by rfl, rfl⟩) (by assumption) ?_
    try simp only [Act.put, List.setIfInBounds_toArray, List.set_cons_zero, List.set_cons_succ]
    refine regTake (i := 14) (v := undef) rfl (by kernel_rfl) (by kernel_rfl) (by kernel_rfl) (fun _ _ _ h => h) (Or.inr ⟨by rfl, rfl⟩) (by assumption) ?_
    try simp only [Act.put, List.setIfInBounds_toArray, List.set_cons_zero, List.set_cons_succ]
    refine regTake (i := 15) (v := undef) rfl (by kernel_rfl) (by kernel_rfl) (by kernel_rfl) (fun _ _ _ h => h) (Or.inr ⟨by rfl, rfl⟩) (by assumption) ?_
    try simp only [Act.put, List.setIfInBounds_toArray, List.set_cons_zero, List.set_cons_succ]
    refine regTake (i := 16) (v := undef) rfl (by kernel_rfl) (by kernel_rfl) (by kernel_rfl) (fun _ _ _ h => h) (Or.inr ⟨by rfl, rfl⟩) (by assumption) ?_
    try simp only [Act.put, List.setIfInBounds_toArray, List.set_cons_zero, List.set_cons_succ]
    refine regTake (i := 17) (v := undef) rfl (by kernel_rfl) (by kernel_rfl) (by kernel_rfl) (fun _ _ _ h => h) (Or.inr ⟨by rfl, rfl⟩) (by assumption) ?_
    try simp only [Act.put, List.setIfInBounds_toArray, List.set_cons_zero, List.set_cons_succ]
    refine regTake (i := 18) (v := undef) rfl (by kernel_rfl) (by kernel_rfl) (by kernel_rfl) (fun _ _ _ h => h) (Or.inr ⟨by rfl, rfl⟩) (by assumption) ?_
    try simp only [Act.put, List.setIfInBounds_toArray, List.set_cons_zero, List.set_cons_succ]
    refine regTake (i := 19) (v := undef) rfl (by kernel_rfl) (by kernel_rfl) (by kernel_rfl) (fun _ _ _ h => h) (Or.inr ⟨by rfl, rfl⟩) (by assumption) ?_
    try simp only [Act.put, List.setIfInBounds_toArray, List.set_cons_zero, List.set_cons_succ]
    refine regTake (i := 20) (v := undef) rfl (by kernel_rfl) (by kernel_rfl) (by kernel_rfl) (fun _ _ _ h => h) (Or.inr ⟨by rfl, rfl⟩) (by assumption) ?_
    try simp only [Act.put, List.setIfInBounds_toArray, List.set_cons_zero, List.set_cons_succ]
    refine regTake (i := 21) (v := undef) rfl (by kernel_rfl) (by kernel_rfl) (by kernel_rfl) (fun _ _ _ h => h) (Or.inr ⟨by rfl, rfl⟩) (by assumption) ?_
    try simp only [Act.put, List.setIfInBounds_toArray, List.set_cons_zero, List.set_cons_succ]
    refine regTake (i := 22) (v := .bool false) rfl (by kernel_rfl) (by kernel_rfl) (by kernel_rfl) (fun _ _ _ h => h) (Or.inl ⟨by rfl, ?hyn5_22⟩) (by assumption) ?_
    case hyn5_22 => (intro w hSw; (try dsimp only at hSw); go_simp; (try with_reducible rfl))
    try simp only [Act.put, List.setIfInBounds_toArray, List.set_cons_zero, List.set_cons_succ]
    refine regTake (i := 23) (v := ?vn5_23) rfl (by kernel_rfl) (by kernel_rfl) (by kernel_rfl) (fun _ _ _ h => h) (Or.inl ⟨by rfl, ?hyn5_23⟩) (by assumption) ?_
    case hyn5_23 => (intro w hSw; (try dsimp only at hSw); go_simp; (try with_reducible rfl))
    try simp only [Act.put, List.setIfInBounds_toArray, List.set_cons_zero, List.set_cons_succ]
    refine regTake (i := 24) (v := undef) rfl (by kernel_rfl) (by kernel_rfl) (by kernel_rfl) (fun _ _ _ h => h) (Or.inr ⟨by rfl, rfl⟩) (by assumption) ?_
    try simp only [Act.put, List.setIfInBounds_toArray, List.set_cons_zero, List.set_cons_succ]
    refine regTake (i := 25) (v := undef) rfl (by kernel_rfl) (by kernel_rfl) (by kernel_rfl) (fun _ _ _ h => h) (Or.inr ⟨by rfl, rfl⟩) (by assumption) ?_
    try simp only [Act.put, List.setIfInBounds_toArray, List.set_cons_zero, List.set_cons_succ]
    refine regTake (i := 26) (v := undef) rfl (by kernel_rfl) (by kernel_rfl) (by kernel_rfl) (fun _ _ _ h => h) (Or.inr ⟨by rfl, rfl⟩) (by assumption) ?_
    try simp only [Act.put, List.setIfInBounds_toArray, List.set_cons_zero, List.set_cons_succ]
    refine regTake (i := 27) (v := undef) rfl (by kernel_rfl) (by kernel_rfl) (by kernel_rfl) (fun _ _ _ h => h) (Or.inr ⟨by rfl, rfl⟩) (by assumption) ?_
    try simp only [Act.put, List.setIfInBounds_toArray, List.set_cons_zero, List.set_cons_succ]
    refine regTake (i := 28) (v := undef) rfl (by kernel_rfl) (by kernel_rfl) (by kernel_rfl) (fun _ _ _ h => h) (Or.inr ⟨by rfl, rfl⟩) (by assumption) ?_
    try simp only [Act.put, List.setIfInBounds_toArray, List.set_cons_zero, List.set_cons_succ]
    refine regTake (i := 29) (v := undef) rfl (by kernel_rfl) (by kernel_rfl) (by kernel_rfl) (fun _ _ _ h => h) (Or.inr ⟨by rfl, rfl⟩) (by assumption) ?_
    try simp only [Act.put, List.setIfInBounds_toArray, List.set_cons_zero, List.set_cons_succ]
    refine regTake (i := 30) (v := undef) rfl (by kernel_rfl) (by kernel_rfl) (by kernel_rfl) (fun _ _ _ h => h) (Or.inr ⟨by rfl, rfl⟩) (by assumption) ?_
    try simp only [Act.put, List.setIfInBounds_toArray, List.set_cons_zero, List.set_cons_succ]
    refine regTake (i := 31) (v := undef) rfl (by kernel_rfl) (by kernel_rfl) (by kernel_rfl) (fun _ _ _ h => h) (Or.inr ⟨by rfl, rfl⟩) (by assumption) ?_
    try simp only [Act.put, List.setIfInBounds_toArray, List.set_cons_zero, List.set_cons_succ]
    refine regTake (i := 32) (v := undef) rfl (by kernel_rfl) (by kernel_rfl) (by kernel_rfl) (fun _ _ _ h => h) (Or.inr ⟨by rfl, rfl⟩) (by assumption) ?_
    try simp only [Act.put, List.setIfInBounds_toArray, List.set_cons_zero, List.set_cons_succ]
    refine regTake (i := 33) (v := undef) rfl (by kernel_rfl) (by kernel_rfl) (by kernel_rfl) (fun _ _ _ h => h) (Or.inr ⟨by rfl, rfl⟩) (by assumption) ?_
    try simp only [Act.put, List.setIfInBounds_toArray, List.set_cons_zero, List.set_cons_succ]
    refine regTake (i := 34) (v := undef) rfl (by kernel_rfl) (by kernel_rfl) (by kernel_rfl) (fun _ _ _ h => h) (Or.inr ⟨by rfl, rfl⟩) (by assumption) ?_
    try simp only [Act.put, List.setIfInBounds_toArray, List.set_cons_zero, List.set_cons_succ]
    refine regTake (i := 35) (v := undef) rfl (by kernel_rfl) (by kernel_rfl) (by kernel_rfl) (fun _ _ _ h => h) (Or.inr ⟨by rfl, rfl⟩) (by assumption) ?_
    try simp only [Act.put, List.setIfInBounds_toArray, List.set_cons_zero, List.set_cons_succ]
    refine regTake (i := 36) (v := undef) rfl (by kernel_rfl) (by kernel_rfl) (by kernel_rfl) (fun _ _ _ h => h) (Or.inr ⟨by rfl, rfl⟩) (by assumption) ?_
    try simp only [Act.put, List.setIfInBounds_toArray, List.set_cons_zero, List.set_cons_succ]
    refine regTake (i := 37) (v := .bool false) rfl (by kernel_rfl) (by kernel_rfl) (by kernel_rfl) (fun _ _ _ h => h) (Or.inl ⟨by rfl, ?hyn5_37⟩) (by assumption) ?_
    case hyn5_37 => (intro w hSw; (try dsimp only at hSw); go_simp; (try with_reducible rfl))
    try simp only [Act.put, List.setIfInBounds_toArray, List.set_cons_zero, List.set_cons_succ]
    refine regTake (i := 38) (v := ?vn5_38) rfl (by kernel_rfl) (by kernel_rfl) (by kernel_rfl) (fun _ _ _ h => h) (Or.inl ⟨by rfl, ?hyn5_38⟩) (by assumption) ?_
    case hyn5_38 => (intro w hSw; (try dsimp only at hSw); go_simp; (try with_reducible rfl))
    try simp only [Act.put, List.setIfInBounds_toArray, List.set_cons_zero, List.set_cons_succ]
    refine wpAnyH_done (by kernel_rfl) ?_ _
    go_wp2_with fail
    go_ret
    exact ⟨ret_b HT.out.symm, below_trans hb0 (below_drew _)⟩
  by_cases hk2 : kt = 5
  case neg =>
    have HT := hid (show typC (n + 1) (.mk 3 0 0 [a, b]) (.mk kf fs) (.mk kt ts) = false by
      simp only [typC]
      simp
      split <;> simp [kindT, hk2])
    obtain ⟨af, cf, rfl⟩ := hsf.shape
    obtain ⟨at', ct, rfl⟩ := hst.shape
    generalize fs.length = nf at *
    generalize ts.length = nt at *
    have q1 : (kf == 5) = true := by simpa using hk
    have q2 : (kt == 5) = false := by simpa using hk2
    have hb0 : Below w.heap.size w (((w.alloc (Obj.cells #[.int .i64 3, .int .i64 0, .int .i64 0, .slice (some ⟨bc, oc, none⟩) 2 cc] 30)).alloc (Obj.cells #[.int .i64 kf, .slice af nf cf] 25)).alloc (Obj.cells #[.int .i64 kt, .slice at' nt ct] 25)) := (((Below.refl _ _).alloc (Nat.le_refl _) _).alloc (by simp) _).alloc (by simp; omega) _
    obtain ⟨bC, bF, bT⟩ := three3 (Below.refl ((((w.alloc (Obj.cells #[.int .i64 3, .int .i64 0, .int .i64 0, .slice (some ⟨bc, oc, none⟩) 2 cc] 30)).alloc (Obj.cells #[.int .i64 kf, .slice af nf cf] 25)).alloc (Obj.cells #[.int .i64 kt, .slice at' nt ct] 25))).heap.size (((w.alloc (Obj.cells #[.int .i64 3, .int .i64 0, .int .i64 0, .slice (some ⟨bc, oc, none⟩) 2 cc] 30)).alloc (Obj.cells #[.int .i64 kf, .slice af nf cf] 25)).alloc (Obj.cells #[.int .i64 kt, .slice at' nt ct] 25)))
    have xC0 : ((((w.alloc (Obj.cells #[.int .i64 3, .int .i64 0, .int .i64 0, .slice (some ⟨bc, oc, none⟩) 2 cc] 30)).alloc (Obj.cells #[.int .i64 kf, .slice af nf cf] 25)).alloc (Obj.cells #[.int .i64 kt, .slice at' nt ct] 25))).cell? ⟨w.heap.size, 0, none⟩ = some (.int .i64 3) := by rw [cell_of_block bC]; rfl
    have xC1 : ((((w.alloc (Obj.cells #[.int .i64 3, .int .i64 0, .int .i64 0, .slice (some ⟨bc, oc, none⟩) 2 cc] 30)).alloc (Obj.cells #[.int .i64 kf, .slice af nf cf] 25)).alloc (Obj.cells #[.int .i64 kt, .slice at' nt ct] 25))).cell? ⟨w.heap.size, 1, none⟩ = some (.int .i64 0) := by rw [cell_of_block bC]; rfl
    have xC2 : ((((w.alloc (Obj.cells #[.int .i64 3, .int .i64 0, .int .i64 0, .slice (some ⟨bc, oc, none⟩) 2 cc] 30)).alloc (Obj.cells #[.int .i64 kf, .slice af nf cf] 25)).alloc (Obj.cells #[.int .i64 kt, .slice at' nt ct] 25))).cell? ⟨w.heap.size, 2, none⟩ = some (.int .i64 0) := by rw [cell_of_block bC]; rfl
    have xC3 : ((((w.alloc (Obj.cells #[.int .i64 3, .int .i64 0, .int .i64 0, .slice (some ⟨bc, oc, none⟩) 2 cc] 30)).alloc (Obj.cells #[.int .i64 kf, .slice af nf cf] 25)).alloc (Obj.cells #[.int .i64 kt, .slice at' nt ct] 25))).cell? ⟨w.heap.size, 3, none⟩ = some (.slice (some ⟨bc, oc, none⟩) 2 cc) := by rw [cell_of_block bC]; rfl
    have xF0 : ((((w.alloc (Obj.cells #[.int .i64 3, .int .i64 0, .int .i64 0, .slice (some ⟨bc, oc, none⟩) 2 cc] 30)).alloc (Obj.cells #[.int .i64 kf, .slice af nf cf] 25)).alloc (Obj.cells #[.int .i64 kt, .slice at' nt ct] 25))).cell? ⟨w.heap.size + 1, 0, none⟩ = some (.int .i64 kf) := by rw [cell_of_block bF]; rfl
    have xF1 : ((((w.alloc (Obj.cells #[.int .i64 3, .int .i64 0, .int .i64 0, .slice (some ⟨bc, oc, none⟩) 2 cc] 30)).alloc (Obj.cells #[.int .i64 kf, .slice af nf cf] 25)).alloc (Obj.cells #[.int .i64 kt, .slice at' nt ct] 25))).cell? ⟨w.heap.size + 1, 1, none⟩ = some (.slice af nf cf) := by rw [cell_of_block bF]; rfl
    have xT0 : ((((w.alloc (Obj.cells #[.int .i64 3, .int .i64 0, .int .i64 0, .slice (some ⟨bc, oc, none⟩) 2 cc] 30)).alloc (Obj.cells #[.int .i64 kf, .slice af nf cf] 25)).alloc (Obj.cells #[.int .i64 kt, .slice at' nt ct] 25))).cell? ⟨w.heap.size + 1 + 1, 0, none⟩ = some (.int .i64 kt) := by rw [cell_of_block bT]; rfl
    have xT1 : ((((w.alloc (Obj.cells #[.int .i64 3, .int .i64 0, .int .i64 0, .slice (some ⟨bc, oc, none⟩) 2 cc] 30)).alloc (Obj.cells #[.int .i64 kf, .slice af nf cf] 25)).alloc (Obj.cells #[.int .i64 kt, .slice at' nt ct] 25))).cell? ⟨w.heap.size + 1 + 1, 1, none⟩ = some (.slice at' nt ct) := by rw [cell_of_block bT]; rfl
    clear bC bF bT
    clear hatc hatf hatt hsc hsf hst hA hB d0 d1 d2 d3 e0 e1 e2 e3 ih hk
    go_enter Try.func51, Try.ntmps51
    go_wp2_with fail
    refine wp_region_held_drew (S := (fun w' => Below ((((w.alloc (Obj.cells #[.int .i64 3, .int .i64 0, .int .i64 0, .slice (some ⟨bc, oc, none⟩) 2 cc] 30)).alloc (Obj.cells #[.int .i64 kf, .slice af nf cf] 25)).alloc (Obj.cells #[.int .i64 kt, .slice at' nt ct] 25))).heap.size (((w.alloc (Obj.cells #[.int .i64 3, .int .i64 0, .int .i64 0, .slice (some ⟨bc, oc, none⟩) 2 cc] 30)).alloc (Obj.cells #[.int .i64 kf, .slice af nf cf] 25)).alloc (Obj.cells #[.int .i64 kt, .slice at' nt ct] 25)) w' ∧ w'.cell? ⟨w.heap.size, 0, none⟩ = some (.int .i64 3) ∧ w'.cell? ⟨w.heap.size, 1, none⟩ = some (.int .i64 0) ∧ w'.cell? ⟨w.heap.size, 2, none⟩ = some (.int .i64 0) ∧ w'.cell? ⟨w.heap.size, 3, none⟩ = some (.slice (some ⟨bc, oc, none⟩) 2 cc) ∧ w'.cell? ⟨w.heap.size + 1, 0, none⟩ = some (.int .i64 kf) ∧ w'.cell? ⟨w.heap.size + 1, 1, none⟩ = some (.slice af nf cf) ∧ w'.cell? ⟨w.heap.size + 1 + 1, 0, none⟩ = some (.int .i64 kt) ∧ w'.cell? ⟨w.heap.size + 1 + 1, 1, none⟩ = some (.slice at' nt ct))) (by kernel_rfl) ?_ (fun hS0 => ?_)
    · (refine (fun hB => ⟨hB, cell_keep xC0 hB, cell_keep xC1 hB, cell_keep xC2 hB, cell_keep xC3 hB, cell_keep xF0 hB, cell_keep xF1 hB, cell_keep xT0 hB, cell_keep xT1 hB⟩ : Below ((((w.alloc (Obj.cells #[.int .i64 3, .int .i64 0, .int .i64 0, .slice (some ⟨bc, oc, none⟩) 2 cc] 30)).alloc (Obj.cells #[.int .i64 kf, .slice af nf cf] 25)).alloc (Obj.cells #[.int .i64 kt, .slice at' nt ct] 25))).heap.size (((w.alloc (Obj.cells #[.int .i64 3, .int .i64 0, .int .i64 0, .slice (some ⟨bc, oc, none⟩) 2 cc] 30)).alloc (Obj.cells #[.int .i64 kf, .slice af nf cf] 25)).alloc (Obj.cells #[.int .i64 kt, .slice at' nt ct] 25)) _ → _) ?_; exact below_drew _)
    refine regTake (i := 0) (v := ?vn6_0) rfl (by kernel_rfl) (by kernel_rfl) (by kernel_rfl) (fun _ _ _ h => h) (Or.inl ⟨by rfl, ?hyn6_0⟩) (by assumption) ?_
    case hyn6_0 => (intro w hSw; (try dsimp only at hSw); go_simp; (try with_reducible rfl))
    try simp only [Act.put, List.setIfInBounds_toArray, List.set_cons_zero, List.set_cons_succ]
    refine regTake (i := 1) (v := ?vn6_1) rfl (by kernel_rfl) (by kernel_rfl) (by kernel_rfl) (fun _ _ _ h => h) (Or.inl ⟨by rfl, ?hyn6_1⟩) (by assumption) ?_
    case hyn6_1 => (intro w hSw; (try dsimp only at hSw); go_simp; (try with_reducible rfl))
    try simp only [Act.put, List.setIfInBounds_toArray, List.set_cons_zero, List.set_cons_succ]
    refine regTake (i := 2) (v := ?vn6_2) rfl (by kernel_rfl) (by kernel_rfl) (by kernel_rfl) (fun _ _ _ h => h) (Or.inl ⟨by rfl, ?hyn6_2⟩) (by assumption) ?_
    case hyn6_2 => (intro w hSw; (try dsimp only at hSw); go_simp; (try with_reducible rfl))
    try simp only [Act.put, List.setIfInBounds_toArray, List.set_cons_zero, List.set_cons_succ]
    refine regTake (i := 3) (v := ?vn6_3) rfl (by kernel_rfl) (by kernel_rfl) (by kernel_rfl) (fun _ _ _ h => h) (Or.inl ⟨by rfl, ?hyn6_3⟩) (by assumption) ?_
    case hyn6_3 => (intro w hSw; (try dsimp only at hSw); go_simp; (try with_reducible rfl))
    try simp only [Act.put, List.setIfInBounds_toArray, List.set_cons_zero, List.set_cons_succ]
    refine regTake (i := 4) (v := ?vn6_4) rfl (by kernel_rfl) (by kernel_rfl) (by kernel_rfl) (fun _ _ _ h => h) (Or.inl ⟨by rfl, ?hyn6_4⟩) (by assumption) ?_
    case hyn6_4 => (intro w hSw; (try dsimp only at hSw); go_simp; (try with_reducible rfl))
    try simp only [Act.put, List.setIfInBounds_toArray, List.set_cons_zero, List.set_cons_succ]
    refine regTake (i := 5) (v := ?vn6_5) rfl (by kernel_rfl) (by kernel_rfl) (by kernel_rfl) (fun _ _ _ h => h) (Or.inl ⟨by rfl, ?hyn6_5⟩) (by assumption) ?_
    case hyn6_5 => (intro w hSw; (try dsimp only at hSw); go_simp; (try with_reducible rfl))
    try simp only [Act.put, List.setIfInBounds_toArray, List.set_cons_zero, List.set_cons_succ]
    refine regTake (i := 6) (v := ?vn6_6) rfl (by kernel_rfl) (by kernel_rfl) (by kernel_rfl) (fun _ _ _ h => h) (Or.inl ⟨by rfl, ?hyn6_6⟩) (by assumption) ?_
    case hyn6_6 => (intro w hSw; (try dsimp only at hSw); go_simp; (try with_reducible rfl))
    try simp only [Act.put, List.setIfInBounds_toArray, List.set_cons_zero, List.set_cons_succ]
    refine regTake (i := 7) (v := .bool false) rfl (by kernel_rfl) (by kernel_rfl) (by kernel_rfl) (fun _ _ _ h => h) (Or.inl ⟨by rfl, ?hyn6_7⟩) (by assumption) ?_
    case hyn6_7 => (intro w hSw; (try dsimp only at hSw); go_simp; (try with_reducible rfl))
    try simp only [Act.put, List.setIfInBounds_toArray, List.set_cons_zero, List.set_cons_succ]
    refine regTake (i := 8) (v := ?vn6_8) rfl (by kernel_rfl) (by kernel_rfl) (by kernel_rfl) (fun _ _ _ h => h) (Or.inl ⟨by rfl, ?hyn6_8⟩) (by assumption) ?_
    case hyn6_8 => (intro w hSw; (try dsimp only at hSw); go_simp; (try with_reducible rfl))
    try simp only [Act.put, List.setIfInBounds_toArray, List.set_cons_zero, List.set_cons_succ]
    refine regTake (i := 9) (v := undef) rfl (by kernel_rfl) (by kernel_rfl) (by kernel_rfl) (fun _ _ _ h => h) (Or.inr ⟨by rfl, rfl⟩) (by assumption) ?_
    try simp only [Act.put, List.setIfInBounds_toArray, List.set_cons_zero, List.set_cons_succ]
    refine regTake (i := 10) (v := undef) rfl (by kernel_rfl) (by kernel_rfl) (by kernel_rfl) (fun _ _ _ h => h) (Or.inr ⟨by rfl, rfl⟩) (by assumption) ?_
    try simp only [Act.put, List.setIfInBounds_toArray, List.set_cons_zero, List.set_cons_succ]
    refine regTake (i := 11) (v := undef) rfl (by kernel_rfl) (by kernel_rfl) (by kernel_rfl) (fun _ _ _ h => h) (Or.inr ⟨by rfl, rfl⟩) (by assumption) ?_
    try simp only [Act.put, List.setIfInBounds_toArray, List.set_cons_zero, List.set_cons_succ]
    refine regTake (i := 12) (v := undef) rfl (by kernel_rfl) (by kernel_rfl) (by kernel_rfl) (fun _ _ _ h => h) (Or.inr ⟨by rfl, rfl⟩) (by assumption) ?_
    try simp only [Act.put, List.setIfInBounds_toArray, List.set_cons_zero, List.set_cons_succ]
    refine regTake (i := 13) (v := undef) rfl (by kernel_rfl) (by kernel_rfl) (by kernel_rfl) (fun _ _ _ h => h) (Or.inr ⟨by rfl, rfl⟩) (by assumption) ?_
    try simp only [Act.put, List.setIfInBounds_toArray, List.set_cons_zero, List.set_cons_succ]
    refine regTake (i := 14) (v := undef) rfl (by kernel_rfl) (by kernel_rfl) (by kernel_rfl) (fun _ _ _ h => h) (Or.inr ⟨by rfl, rfl⟩) (by assumption) ?_
    try simp only [Act.put, List.setIfInBounds_toArray, List.set_cons_zero, List.set_cons_succ]
    refine regTake (i := 15) (v := undef) rfl (by kernel_rfl) (by kernel_rfl) (by kernel_rfl) (fun _ _ _ h => h) (Or.inr ⟨by rfl, rfl⟩) (by assumption) ?_
    try simp only [Act.put, List.setIfInBounds_toArray, List.set_cons_zero, List.set_cons_succ]
    refine regTake (i := 16) (v := undef) rfl (by kernel_rfl) (by kernel_rfl) (by kernel_rfl) (fun _ _ _ h => h) (Or.inr ⟨by rfl, rfl⟩) (by assumption) ?_
    try simp only [Act.put, List.setIfInBounds_toArray, List.set_cons_zero, List.set_cons_succ]
    refine regTake (i := 17) (v := undef) rfl (by kernel_rfl) (by kernel_rfl) (by kernel_rfl) (fun _ _ _ h => h) (Or.inr ⟨by rfl, rfl⟩) (by assumption) ?_
    try simp only [Act.put, List.setIfInBounds_toArray, List.set_cons_zero, List.set_cons_succ]
    refine regTake (i := 18) (v := undef) rfl (by kernel_rfl) (by kernel_rfl) (by kernel_rfl) (fun _ _ _ h => h) (Or.inr ⟨by rfl, rfl⟩) (by assumption) ?_
    try simp only [Act.put, List.setIfInBounds_toArray, List.set_cons_zero, List.set_cons_succ]
    refine regTake (i := 19) (v := undef) rfl (by kernel_rfl) (by kernel_rfl) (by kernel_rfl) (fun _ _ _ h => h) (Or.inr ⟨by rfl, rfl⟩) (by assumption) ?_
    try simp only [Act.put, List.setIfInBounds_toArray, List.set_cons_zero, List.set_cons_succ]
    refine regTake (i := 20) (v := undef) rfl (by kernel_rfl) (by kernel_rfl) (by kernel_rfl) (fun _ _ _ h => h) (Or.inr ⟨by rfl, rfl⟩) (by assumption) ?_
    try simp only [Act.put, List.setIfInBounds_toArray, List.set_cons_zero, List.set_cons_succ]
    refine regTake (i := 21) (v := undef) rfl (by kernel_rfl) (by kernel_rfl) (by kernel_rfl) (fun _ _ _ h => h) (Or.inr ⟨by rfl, rfl⟩) (by assumption) ?_
    try simp only [Act.put, List.setIfInBounds_toArray, List.set_cons_zero, List.set_cons_succ]
    refine regTake (i := 22) (v := .bool false) rfl (by kernel_rfl) (by kernel_rfl) (by kernel_rfl) (fun _ _ _ h => h) (Or.inl ⟨by rfl, ?hyn6_22⟩) (by assumption) ?_
    case hyn6_22 => (intro w hSw; (try dsimp only at hSw); go_simp; (try with_reducible rfl))
    try simp only [Act.put, List.setIfInBounds_toArray, List.set_cons_zero, List.set_cons_succ]
    refine regTake (i := 23) (v := ?vn6_23) rfl (by kernel_rfl) (by kernel_rfl) (by kernel_rfl) (fun _ _ _ h => h) (Or.inl ⟨by rfl, ?hyn6_23⟩) (by assumption) ?_
    case hyn6_23 => (intro w hSw; (try dsimp only at hSw); go_simp; (try with_reducible rfl))
    try simp only [Act.put, List.setIfInBounds_toArray, List.set_cons_zero, List.set_cons_succ]
    refine regTake (i := 24) (v := undef) rfl (by kernel_rfl) (by kernel_rfl) (by kernel_rfl) (fun _ _ _ h => h) (Or.inr ⟨by rfl, rfl⟩) (by assumption) ?_
    try simp only [Act.put, List.setIfInBounds_toArray, List.set_cons_zero, List.set_cons_succ]
    refine regTake (i := 25) (v := undef) rfl (by kernel_rfl) (by kernel_rfl) (by kernel_rfl) (fun _ _ _ h => h) (Or.inr ⟨by rfl, rfl⟩) (by assumption) ?_
    try simp only [Act.put, List.setIfInBounds_toArray, List.set_cons_zero, List.set_cons_succ]
    refine regTake (i := 26) (v := undef) rfl (by kernel_rfl) (by kernel_rfl) (by kernel_rfl) (fun _ _ _ h => h) (Or.inr ⟨by rfl, rfl⟩) (by assumption) ?_
    try simp only [Act.put, List.setIfInBounds_toArray, List.set_cons_zero, List.set_cons_succ]
    refine regTake (i := 27) (v := undef) rfl (by kernel_rfl) (by kernel_rfl) (by kernel_rfl) (fun _ _ _ h => h) (Or.inr ⟨by rfl, rfl⟩) (by assumption) ?_
    try simp only [Act.put, List.setIfInBounds_toArray, List.set_cons_zero, List.set_cons_succ]
    refine regTake (i := 28) (v := undef) rfl (by kernel_rfl) (by kernel_rfl) (by kernel_rfl) (fun _ _ _ h => h) (Or.inr ⟨by rfl, rfl⟩) (by assumption) ?_
    try simp only [Act.put, List.setIfInBounds_toArray, List.set_cons_zero, List.set_cons_succ]
    refine regTake (i := 29) (v := undef) rfl (by kernel_rfl) (by kernel_rfl) (by kernel_rfl) (fun _ _ _ h => h) (Or.inr ⟨by rfl, rfl⟩) (by assumption) ?_
    try simp only [Act.put, List.setIfInBounds_toArray, List.set_cons_zero, List.set_cons_succ]
    refine regTake (i := 30) (v := undef) rfl (by kernel_rfl) (by kernel_rfl) (by kernel_rfl) (fun _ _ _ h => h) (Or.inr ⟨by rfl, rfl⟩) (by assumption) ?_
    try simp only [Act.put, List.setIfInBounds_toArray, List.set_cons_zero, List.set_cons_succ]
    refine regTake (i := 31) (v := undef) rfl (by kernel_rfl) (by kernel_rfl) (by kernel_rfl) (fun _ _ _ h => h) (Or.inr ⟨by rfl, rfl⟩) (by assumption) ?_
    try simp only [Act.put, List.setIfInBounds_toArray, List.set_cons_zero, List.set_cons_succ]
    refine regTake (i := 32) (v := undef) rfl (by kernel_rfl) (by kernel_rfl) (by kernel_rfl) (fun _ _ _ h => h) (Or.inr ⟨by rfl, rfl⟩) (by assumption) ?_
    try simp only [Act.put, List.setIfInBounds_toArray, List.set_cons_zero, List.set_cons_succ]
    refine regTake (i := 33) (v := undef) rfl (by kernel_rfl) (by kernel_rfl) (by kernel_rfl) (fun _ _ _ h => h) (Or.inr ⟨by rfl, rfl⟩) (by assumption) ?_
    try simp only [Act.put, List.setIfInBounds_toArray, List.set_cons_zero, List.set_cons_succ]
    refine regTake (i := 34) (v := undef) rfl (by kernel_rfl) (by kernel_rfl) (by kernel_rfl) (fun _ _ _ h => h) (Or.inr ⟨by rfl, rfl⟩) (by assumption) ?_
    try simp only [Act.put, List.setIfInBounds_toArray, List.set_cons_zero, List.set_cons_succ]
    refine regTake (i := 35) (v := undef) rfl (by kernel_rfl) (by kernel_rfl) (by kernel_rfl) (fun _ _ _ h => h) (Or.inr ⟨by rfl, rfl⟩) (by assumption) ?_
    try simp only [Act.put, List.setIfInBounds_toArray, List.set_cons_zero, List.set_cons_succ]
    refine regTake (i := 36) (v := undef) rfl (by kernel_rfl) (by kernel_rfl) (by kernel_rfl) (fun _ _ _ h => h) (Or.inr ⟨by rfl, rfl⟩) (by assumption) ?_
    try simp only [Act.put, List.setIfInBounds_toArray, List.set_cons_zero, List.set_cons_succ]
    refine regTake (i := 37) (v := .bool false) rfl (by kernel_rfl) (by kernel_rfl) (by kernel_rfl) (fun _ _ _ h => h) (Or.inl ⟨by rfl, ?hyn6_37⟩) (by assumption) ?_
    case hyn6_37 => (intro w hSw; (try dsimp only at hSw); go_simp; (try with_reducible rfl))
    try simp only [Act.put, List.setIfInBounds_toArray, List.set_cons_zero, List.set_cons_succ]
    refine regTake (i := 38) (v := ?vn6_38) rfl (by kernel_rfl) (by kernel_rfl) (by kernel_rfl) (fun _ _ _ h => h) (Or.inl ⟨by rfl, ?hyn6_38⟩) (by assumption) ?_
    case hyn6_38 => (intro w hSw; (try dsimp only at hSw); go_simp; (try with_reducible rfl))
    try simp only [Act.put, List.setIfInBounds_toArray, List.set_cons_zero, List.set_cons_succ]
    refine wpAnyH_done (by kernel_rfl) ?_ _
    go_wp2_with fail
    go_ret
    exact ⟨ret_b HT.out.symm, below_trans hb0 (below_drew _)⟩
  have q1 : (kf == 5) = true := by simpa using hk
  have q2 : (kt == 5) = true := by simpa using hk2
  obtain ⟨f1, f2, rfl, hf1, hf2⟩ : ∃ f1 f2, fs = [f1, f2] ∧ shp 4 f1 = true ∧ shp 4 f2 = true := by
    rcases shp_cases hf4 with ⟨_, h⟩ | ⟨x, y, h, _, hx, hy⟩
    · omega
    · exact ⟨x, y, h, shp_up (by omega) hx, shp_up (by omega) hy⟩
  obtain ⟨t1, t2, rfl, ht1, ht2⟩ : ∃ t1 t2, ts = [t1, t2] ∧ shp 4 t1 = true ∧ shp 4 t2 = true := by
    rcases shp_cases ht4 with ⟨_, h⟩ | ⟨x, y, h, _, hx, hy⟩
    · omega
    · exact ⟨x, y, h, shp_up (by omega) hx, shp_up (by omega) hy⟩
  obtain ⟨bf, of, cf, k1, n1, a1, c1, k2, n2, a2, c2, r1, r2, rfl, hbf, u0, u1, u2, u3, hX1, hX2, _, hcf⟩ := hsf.two
  obtain ⟨bt, ot, ct, k3, n3, a3, c3, k4, n4, a4, c4, r3, r4, rfl, hbt, v0, v1, v2, v3, hY1, hY2, _, hct⟩ := hst.two
  have HT := hid (show typC (n + 1) (.mk 3 0 0 [a, b]) (.mk kf [f1, f2]) (.mk kt [t1, t2]) = (typC n a f1 t1 && typC n b f2 t2) by
    simp [typC, kindT, kidsT', hk, hk2])
  clear hk hk2
  have hb0 : Below w.heap.size w (((w.alloc (Obj.cells #[.int .i64 3, .int .i64 0, .int .i64 0, .slice (some ⟨bc, oc, none⟩) 2 cc] 30)).alloc (Obj.cells #[.int .i64 kf, .slice (some ⟨bf, of, none⟩) 2 cf] 25)).alloc (Obj.cells #[.int .i64 kt, .slice (some ⟨bt, ot, none⟩) 2 ct] 25)) := (((Below.refl _ _).alloc (Nat.le_refl _) _).alloc (by simp) _).alloc (by simp; omega) _
  obtain ⟨bC, bF, bT⟩ := three3 (Below.refl ((((w.alloc (Obj.cells #[.int .i64 3, .int .i64 0, .int .i64 0, .slice (some ⟨bc, oc, none⟩) 2 cc] 30)).alloc (Obj.cells #[.int .i64 kf, .slice (some ⟨bf, of, none⟩) 2 cf] 25)).alloc (Obj.cells #[.int .i64 kt, .slice (some ⟨bt, ot, none⟩) 2 ct] 25))).heap.size (((w.alloc (Obj.cells #[.int .i64 3, .int .i64 0, .int .i64 0, .slice (some ⟨bc, oc, none⟩) 2 cc] 30)).alloc (Obj.cells #[.int .i64 kf, .slice (some ⟨bf, of, none⟩) 2 cf] 25)).alloc (Obj.cells #[.int .i64 kt, .slice (some ⟨bt, ot, none⟩) 2 ct] 25)))
  have xC0 : ((((w.alloc (Obj.cells #[.int .i64 3, .int .i64 0, .int .i64 0, .slice (some ⟨bc, oc, none⟩) 2 cc] 30)).alloc (Obj.cells #[.int .i64 kf, .slice (some ⟨bf, of, none⟩) 2 cf] 25)).alloc (Obj.cells #[.int .i64 kt, .slice (some ⟨bt, ot, none⟩) 2 ct] 25))).cell? ⟨w.heap.size, 0, none⟩ = some (.int .i64 3) := by rw [cell_of_block bC]; rfl
  have xC1 : ((((w.alloc (Obj.cells #[.int .i64 3, .int .i64 0, .int .i64 0, .slice (some ⟨bc, oc, none⟩) 2 cc] 30)).alloc (Obj.cells #[.int .i64 kf, .slice (some ⟨bf, of, none⟩) 2 cf] 25)).alloc (Obj.cells #[.int .i64 kt, .slice (some ⟨bt, ot, none⟩) 2 ct] 25))).cell? ⟨w.heap.size, 1, none⟩ = some (.int .i64 0) := by rw [cell_of_block bC]; rfl
  have xC2 : ((((w.alloc (Obj.cells #[.int .i64 3, .int .i64 0, .int .i64 0, .slice (some ⟨bc, oc, none⟩) 2 cc] 30)).alloc (Obj.cells #[.int .i64 kf, .slice (some ⟨bf, of, none⟩) 2 cf] 25)).alloc (Obj.cells #[.int .i64 kt, .slice (some ⟨bt, ot, none⟩) 2 ct] 25))).cell? ⟨w.heap.size, 2, none⟩ = some (.int .i64 0) := by rw [cell_of_block bC]; rfl
  have xC3 : ((((w.alloc (Obj.cells #[.int .i64 3, .int .i64 0, .int .i64 0, .slice (some ⟨bc, oc, none⟩) 2 cc] 30)).alloc (Obj.cells #[.int .i64 kf, .slice (some ⟨bf, of, none⟩) 2 cf] 25)).alloc (Obj.cells #[.int .i64 kt, .slice (some ⟨bt, ot, none⟩) 2 ct] 25))).cell? ⟨w.heap.size, 3, none⟩ = some (.slice (some ⟨bc, oc, none⟩) 2 cc) := by rw [cell_of_block bC]; rfl
  have xF0 : ((((w.alloc (Obj.cells #[.int .i64 3, .int .i64 0, .int .i64 0, .slice (some ⟨bc, oc, none⟩) 2 cc] 30)).alloc (Obj.cells #[.int .i64 kf, .slice (some ⟨bf, of, none⟩) 2 cf] 25)).alloc (Obj.cells #[.int .i64 kt, .slice (some ⟨bt, ot, none⟩) 2 ct] 25))).cell? ⟨w.heap.size + 1, 0, none⟩ = some (.int .i64 kf) := by rw [cell_of_block bF]; rfl
  have xF1 : ((((w.alloc (Obj.cells #[.int .i64 3, .int .i64 0, .int .i64 0, .slice (some ⟨bc, oc, none⟩) 2 cc] 30)).alloc (Obj.cells #[.int .i64 kf, .slice (some ⟨bf, of, none⟩) 2 cf] 25)).alloc (Obj.cells #[.int .i64 kt, .slice (some ⟨bt, ot, none⟩) 2 ct] 25))).cell? ⟨w.heap.size + 1, 1, none⟩ = some (.slice (some ⟨bf, of, none⟩) 2 cf) := by rw [cell_of_block bF]; rfl
  have xT0 : ((((w.alloc (Obj.cells #[.int .i64 3, .int .i64 0, .int .i64 0, .slice (some ⟨bc, oc, none⟩) 2 cc] 30)).alloc (Obj.cells #[.int .i64 kf, .slice (some ⟨bf, of, none⟩) 2 cf] 25)).alloc (Obj.cells #[.int .i64 kt, .slice (some ⟨bt, ot, none⟩) 2 ct] 25))).cell? ⟨w.heap.size + 1 + 1, 0, none⟩ = some (.int .i64 kt) := by rw [cell_of_block bT]; rfl
  have xT1 : ((((w.alloc (Obj.cells #[.int .i64 3, .int .i64 0, .int .i64 0, .slice (some ⟨bc, oc, none⟩) 2 cc] 30)).alloc (Obj.cells #[.int .i64 kf, .slice (some ⟨bf, of, none⟩) 2 cf] 25)).alloc (Obj.cells #[.int .i64 kt, .slice (some ⟨bt, ot, none⟩) 2 ct] 25))).cell? ⟨w.heap.size + 1 + 1, 1, none⟩ = some (.slice (some ⟨bt, ot, none⟩) 2 ct) := by rw [cell_of_block bT]; rfl
  clear bC bF bT
  replace d0 := cell_keep d0 hb0
  replace d1 := cell_keep d1 hb0
  replace d2 := cell_keep d2 hb0
  replace d3 := cell_keep d3 hb0
  replace e0 := cell_keep e0 hb0
  replace e1 := cell_keep e1 hb0
  replace e2 := cell_keep e2 hb0
  replace e3 := cell_keep e3 hb0
  replace u0 := cell_keep u0 hb0
  replace u1 := cell_keep u1 hb0
  replace u2 := cell_keep u2 hb0
  replace u3 := cell_keep u3 hb0
  replace v0 := cell_keep v0 hb0
  replace v1 := cell_keep v1 hb0
  replace v2 := cell_keep v2 hb0
  replace v3 := cell_keep v3 hb0
  have H := hid (And.intro (hA.below hb0) (And.intro (hB.below hb0) (And.intro (hX1.below hb0) (And.intro (hX2.below hb0) (And.intro (hY1.below hb0) (hY2.below hb0))))))
  have HIH := hid ih
  have HP := hid (And.intro hsa (And.intro hsb (And.intro hf1 (And.intro hf2 (And.intro ht1 ht2)))))
  clear ih hatc hatf hatt hsc hsf hst hA hB hX1 hX2 hY1 hY2 hsa hsb hf1 hf2 ht1 ht2 hf4 ht4
  cases hv : typC n a f1 t1 with
  | false =>
    have HV := hid hv
    rw [hv, Bool.false_and] at HT
    clear hv
    go_enter Try.func51, Try.ntmps51
    go_wp2_with fail
    refine wp_region_held_drew (S := (fun w' => Below ((((w.alloc (Obj.cells #[.int .i64 3, .int .i64 0, .int .i64 0, .slice (some ⟨bc, oc, none⟩) 2 cc] 30)).alloc (Obj.cells #[.int .i64 kf, .slice (some ⟨bf, of, none⟩) 2 cf] 25)).alloc (Obj.cells #[.int .i64 kt, .slice (some ⟨bt, ot, none⟩) 2 ct] 25))).heap.size (((w.alloc (Obj.cells #[.int .i64 3, .int .i64 0, .int .i64 0, .slice (some ⟨bc, oc, none⟩) 2 cc] 30)).alloc (Obj.cells #[.int .i64 kf, .slice (some ⟨bf, of, none⟩) 2 cf] 25)).alloc (Obj.cells #[.int .i64 kt, .slice (some ⟨bt, ot, none⟩) 2 ct] 25)) w' ∧ w'.cell? ⟨w.heap.size, 0, none⟩ = some (.int .i64 3) ∧ w'.cell? ⟨w.heap.size, 1, none⟩ = some (.int .i64 0) ∧ w'.cell? ⟨w.heap.size, 2, none⟩ = some (.int .i64 0) ∧ w'.cell? ⟨w.heap.size, 3, none⟩ = some (.slice (some ⟨bc, oc, none⟩) 2 cc) ∧ w'.cell? ⟨w.heap.size + 1, 0, none⟩ = some (.int .i64 kf) ∧ w'.cell? ⟨w.heap.size + 1, 1, none⟩ = some (.slice (some ⟨bf, of, none⟩) 2 cf) ∧ w'.cell? ⟨w.heap.size + 1 + 1, 0, none⟩ = some (.int .i64 kt) ∧ w'.cell? ⟨w.heap.size + 1 + 1, 1, none⟩ = some (.slice (some ⟨bt, ot, none⟩) 2 ct) ∧ w'.cell? ⟨bc, oc, none⟩ = some (.int .i64 ka) ∧ w'.cell? ⟨bc, oc + 1, none⟩ = some (.int .i64 ga) ∧ w'.cell? ⟨bc, oc + 2, none⟩ = some (.int .i64 la) ∧ w'.cell? ⟨bc, oc + 3, none⟩ = some (.slice aa na ca) ∧ w'.cell? ⟨bc, oc + 4, none⟩ = some (.int .i64 kb) ∧ w'.cell? ⟨bc, oc + 4 + 1, none⟩ = some (.int .i64 gb) ∧ w'.cell? ⟨bc, oc + 4 + 2, none⟩ = some (.int .i64 lb) ∧ w'.cell? ⟨bc, oc + 4 + 3, none⟩ = some (.slice ab nb cb) ∧ w'.cell? ⟨bf, of, none⟩ = some (.int .i64 k1) ∧ w'.cell? ⟨bf, of + 1, none⟩ = some (.slice a1 n1 c1) ∧ w'.cell? ⟨bf, of + 2, none⟩ = some (.int .i64 k2) ∧ w'.cell? ⟨bf, of + 2 + 1, none⟩ = some (.slice a2 n2 c2) ∧ w'.cell? ⟨bt, ot, none⟩ = some (.int .i64 k3) ∧ w'.cell? ⟨bt, ot + 1, none⟩ = some (.slice a3 n3 c3) ∧ w'.cell? ⟨bt, ot + 2, none⟩ = some (.int .i64 k4) ∧ w'.cell? ⟨bt, ot + 2 + 1, none⟩ = some (.slice a4 n4 c4))) (by kernel_rfl) ?_ (fun hS0 => ?_)
    · (refine (fun hB => ⟨hB, cell_keep xC0 hB, cell_keep xC1 hB, cell_keep xC2 hB, cell_keep xC3 hB, cell_keep xF0 hB, cell_keep xF1 hB, cell_keep xT0 hB, cell_keep xT1 hB, cell_keep d0 hB, cell_keep d1 hB, cell_keep d2 hB, cell_keep d3 hB, cell_keep e0 hB, cell_keep e1 hB, cell_keep e2 hB, cell_keep e3 hB, cell_keep u0 hB, cell_keep u1 hB, cell_keep u2 hB, cell_keep u3 hB, cell_keep v0 hB, cell_keep v1 hB, cell_keep v2 hB, cell_keep v3 hB⟩ : Below ((((w.alloc (Obj.cells #[.int .i64 3, .int .i64 0, .int .i64 0, .slice (some ⟨bc, oc, none⟩) 2 cc] 30)).alloc (Obj.cells #[.int .i64 kf, .slice (some ⟨bf, of, none⟩) 2 cf] 25)).alloc (Obj.cells #[.int .i64 kt, .slice (some ⟨bt, ot, none⟩) 2 ct] 25))).heap.size (((w.alloc (Obj.cells #[.int .i64 3, .int .i64 0, .int .i64 0, .slice (some ⟨bc, oc, none⟩) 2 cc] 30)).alloc (Obj.cells #[.int .i64 kf, .slice (some ⟨bf, of, none⟩) 2 cf] 25)).alloc (Obj.cells #[.int .i64 kt, .slice (some ⟨bt, ot, none⟩) 2 ct] 25)) _ → _) ?_; exact below_drew _)
    refine regTake (i := 0) (v := ?vn7_0) rfl (by kernel_rfl) (by kernel_rfl) (by kernel_rfl) (fun _ _ _ h => h) (Or.inl ⟨by rfl, ?hyn7_0⟩) (by assumption) ?_
    case hyn7_0 => (intro w hSw; (try dsimp only at hSw); go_simp; (try with_reducible rfl))
    try simp only [Act.put, List.setIfInBounds_toArray, List.set_cons_zero, List.set_cons_succ]
    refine regTake (i := 1) (v := ?vn7_1) rfl (by kernel_rfl) (by kernel_rfl) (by kernel_rfl) (fun _ _ _ h => h) (Or.inl ⟨by rfl, ?hyn7_1⟩) (by assumption) ?_
    case hyn7_1 => (intro w hSw; (try dsimp only at hSw); go_simp; (try with_reducible rfl))
    try simp only [Act.put, List.setIfInBounds_toArray, List.set_cons_zero, List.set_cons_succ]
    refine regTake (i := 2) (v := ?vn7_2) rfl (by kernel_rfl) (by kernel_rfl) (by kernel_rfl) (fun _ _ _ h => h) (Or.inl ⟨by rfl, ?hyn7_2⟩) (by assumption) ?_
    case hyn7_2 => (intro w hSw; (try dsimp only at hSw); go_simp; (try with_reducible rfl))
    try simp only [Act.put, List.setIfInBounds_toArray, List.set_cons_zero, List.set_cons_succ]
    refine regTake (i := 3) (v := ?vn7_3) rfl (by kernel_rfl) (by kernel_rfl) (by kernel_rfl) (fun _ _ _ h => h) (Or.inl ⟨by rfl, ?hyn7_3⟩) (by assumption) ?_
    case hyn7_3 => (intro w hSw; (try dsimp only at hSw); go_simp; (try with_reducible rfl))
    try simp only [Act.put, List.setIfInBounds_toArray, List.set_cons_zero, List.set_cons_succ]
    refine regTake (i := 4) (v := ?vn7_4) rfl (by kernel_rfl) (by kernel_rfl) (by kernel_rfl) (fun _ _ _ h => h) (Or.inl ⟨by rfl, ?hyn7_4⟩) (by assumption) ?_
    case hyn7_4 => (intro w hSw; (try dsimp only at hSw); go_simp; (try with_reducible rfl))
    try simp only [Act.put, List.setIfInBounds_toArray, List.set_cons_zero, List.set_cons_succ]
    refine regTake (i := 5) (v := ?vn7_5) rfl (by kernel_rfl) (by kernel_rfl) (by kernel_rfl) (fun _ _ _ h => h) (Or.inl ⟨by rfl, ?hyn7_5⟩) (by assumption) ?_
    case hyn7_5 => (intro w hSw; (try dsimp only at hSw); go_simp; (try with_reducible rfl))
    try simp only [Act.put, List.setIfInBounds_toArray, List.set_cons_zero, List.set_cons_succ]
    refine regTake (i := 6) (v := ?vn7_6) rfl (by kernel_rfl) (by kernel_rfl) (by kernel_rfl) (fun _ _ _ h => h) (Or.inl ⟨by rfl, ?hyn7_6⟩) (by assumption) ?_
    case hyn7_6 => (intro w hSw; (try dsimp only at hSw); go_simp; (try with_reducible rfl))
    try simp only [Act.put, List.setIfInBounds_toArray, List.set_cons_zero, List.set_cons_succ]
    refine regTake (i := 7) (v := .bool true) rfl (by kernel_rfl) (by kernel_rfl) (by kernel_rfl) (fun _ _ _ h => h) (Or.inl ⟨by rfl, ?hyn7_7⟩) (by assumption) ?_
    case hyn7_7 => (intro w hSw; (try dsimp only at hSw); go_simp; (try with_reducible rfl))
    try simp only [Act.put, List.setIfInBounds_toArray, List.set_cons_zero, List.set_cons_succ]
    refine regTake (i := 8) (v := ?vn7_8) rfl (by kernel_rfl) (by kernel_rfl) (by kernel_rfl) (fun _ _ _ h => h) (Or.inl ⟨by rfl, ?hyn7_8⟩) (by assumption) ?_
    case hyn7_8 => (intro w hSw; (try dsimp only at hSw); go_simp; (try with_reducible rfl))
    try simp only [Act.put, List.setIfInBounds_toArray, List.set_cons_zero, List.set_cons_succ]
    refine regTake (i := 9) (v := ?vn7_9) rfl (by kernel_rfl) (by kernel_rfl) (by kernel_rfl) (fun _ _ _ h => h) (Or.inl ⟨by rfl, ?hyn7_9⟩) (by assumption) ?_
    case hyn7_9 => (intro w hSw; (try dsimp only at hSw); go_simp; (try with_reducible rfl))
    try simp only [Act.put, List.setIfInBounds_toArray, List.set_cons_zero, List.set_cons_succ]
    refine regTake (i := 10) (v := ?vn7_10) rfl (by kernel_rfl) (by kernel_rfl) (by kernel_rfl) (fun _ _ _ h => h) (Or.inl ⟨by rfl, ?hyn7_10⟩) (by assumption) ?_
    case hyn7_10 => (intro w hSw; (try dsimp only at hSw); go_simp; (try with_reducible rfl))
    try simp only [Act.put, List.setIfInBounds_toArray, List.set_cons_zero, List.set_cons_succ]
    refine regTake (i := 11) (v := ?vn7_11) rfl (by kernel_rfl) (by kernel_rfl) (by kernel_rfl) (fun _ _ _ h => h) (Or.inl ⟨by rfl, ?hyn7_11⟩) (by assumption) ?_
    case hyn7_11 => (intro w hSw; (try dsimp only at hSw); go_simp; (try with_reducible rfl))
    try simp only [Act.put, List.setIfInBounds_toArray, List.set_cons_zero, List.set_cons_succ]
    refine regTake (i := 12) (v := ?vn7_12) rfl (by kernel_rfl) (by kernel_rfl) (by kernel_rfl) (fun _ _ _ h => h) (Or.inl ⟨by rfl, ?hyn7_12⟩) (by assumption) ?_
    case hyn7_12 => (intro w hSw; (try dsimp only at hSw); go_simp; (try with_reducible rfl))
    try simp only [Act.put, List.setIfInBounds_toArray, List.set_cons_zero, List.set_cons_succ]
    refine regTake (i := 13) (v := ?vn7_13) rfl (by kernel_rfl) (by kernel_rfl) (by kernel_rfl) (fun _ _ _ h => h) (Or.inl ⟨by rfl, ?hyn7_13⟩) (by assumption) ?_
    case hyn7_13 => (intro w hSw; (try dsimp only at hSw); go_simp; (try with_reducible rfl))
    try simp only [Act.put, List.setIfInBounds_toArray, List.set_cons_zero, List.set_cons_succ]
    refine regTake (i := 14) (v := ?vn7_14) rfl (by kernel_rfl) (by kernel_rfl) (by kernel_rfl) (fun _ _ _ h => h) (Or.inl ⟨by rfl, ?hyn7_14⟩) (by assumption) ?_
    case hyn7_14 => (intro w hSw; (try dsimp only at hSw); go_simp; (try with_reducible rfl))
    try simp only [Act.put, List.setIfInBounds_toArray, List.set_cons_zero, List.set_cons_succ]
    refine regTake (i := 15) (v := ?vn7_15) rfl (by kernel_rfl) (by kernel_rfl) (by kernel_rfl) (fun _ _ _ h => h) (Or.inl ⟨by rfl, ?hyn7_15⟩) (by assumption) ?_
    case hyn7_15 => (intro w hSw; (try dsimp only at hSw); go_simp; (try with_reducible rfl))
    try simp only [Act.put, List.setIfInBounds_toArray, List.set_cons_zero, List.set_cons_succ]
    refine regTake (i := 16) (v := ?vn7_16) rfl (by kernel_rfl) (by kernel_rfl) (by kernel_rfl) (fun _ _ _ h => h) (Or.inl ⟨by rfl, ?hyn7_16⟩) (by assumption) ?_
    case hyn7_16 => (intro w hSw; (try dsimp only at hSw); go_simp; (try with_reducible rfl))
    try simp only [Act.put, List.setIfInBounds_toArray, List.set_cons_zero, List.set_cons_succ]
    refine regTake (i := 17) (v := ?vn7_17) rfl (by kernel_rfl) (by kernel_rfl) (by kernel_rfl) (fun _ _ _ h => h) (Or.inl ⟨by rfl, ?hyn7_17⟩) (by assumption) ?_
    case hyn7_17 => (intro w hSw; (try dsimp only at hSw); go_simp; (try with_reducible rfl))
    try simp only [Act.put, List.setIfInBounds_toArray, List.set_cons_zero, List.set_cons_succ]
    refine regTake (i := 18) (v := ?vn7_18) rfl (by kernel_rfl) (by kernel_rfl) (by kernel_rfl) (fun _ _ _ h => h) (Or.inl ⟨by rfl, ?hyn7_18⟩) (by assumption) ?_
    case hyn7_18 => (intro w hSw; (try dsimp only at hSw); go_simp; (try with_reducible rfl))
    try simp only [Act.put, List.setIfInBounds_toArray, List.set_cons_zero, List.set_cons_succ]
    refine regTake (i := 19) (v := ?vn7_19) rfl (by kernel_rfl) (by kernel_rfl) (by kernel_rfl) (fun _ _ _ h => h) (Or.inl ⟨by rfl, ?hyn7_19⟩) (by assumption) ?_
    case hyn7_19 => (intro w hSw; (try dsimp only at hSw); go_simp; (try with_reducible rfl))
    try simp only [Act.put, List.setIfInBounds_toArray, List.set_cons_zero, List.set_cons_succ]
    refine regTake (i := 20) (v := ?vn7_20) rfl (by kernel_rfl) (by kernel_rfl) (by kernel_rfl) (fun _ _ _ h => h) (Or.inl ⟨by rfl, ?hyn7_20⟩) (by assumption) ?_
    case hyn7_20 => (intro w hSw; (try dsimp only at hSw); go_simp; (try with_reducible rfl))
    try simp only [Act.put, List.setIfInBounds_toArray, List.set_cons_zero, List.set_cons_succ]
    refine wpAnyH_ready (rs := [21]) (by kernel_rfl) (by simp) ?_
    refine regCons rfl (fun K hK => ?_)
    go_simp
    refine (HIH.out a f1 t1 _ _ _ _ _ _ _ HP.out.1 HP.out.2.2.1 HP.out.2.2.2.2.1 (H.out.1.below (below_drew _)) (H.out.2.2.1.below (below_drew _)) (H.out.2.2.2.2.1.below (below_drew _))).mono ?_
    rw [HV.out]
    rintro e w1 ⟨rfl, hb1⟩
    have hk0 := below_trans (below_drew (((w.alloc (Obj.cells #[.int .i64 3, .int .i64 0, .int .i64 0, .slice (some ⟨bc, oc, none⟩) 2 cc] 30)).alloc (Obj.cells #[.int .i64 kf, .slice (some ⟨bf, of, none⟩) 2 cf] 25)).alloc (Obj.cells #[.int .i64 kt, .slice (some ⟨bt, ot, none⟩) 2 ct] 25))) hb1
    refine hK.out _ _ ?_ (fun hS1 => ?_)
    · (refine (fun hB => ⟨hB, cell_keep xC0 hB, cell_keep xC1 hB, cell_keep xC2 hB, cell_keep xC3 hB, cell_keep xF0 hB, cell_keep xF1 hB, cell_keep xT0 hB, cell_keep xT1 hB, cell_keep d0 hB, cell_keep d1 hB, cell_keep d2 hB, cell_keep d3 hB, cell_keep e0 hB, cell_keep e1 hB, cell_keep e2 hB, cell_keep e3 hB, cell_keep u0 hB, cell_keep u1 hB, cell_keep u2 hB, cell_keep u3 hB, cell_keep v0 hB, cell_keep v1 hB, cell_keep v2 hB, cell_keep v3 hB⟩ : Below ((((w.alloc (Obj.cells #[.int .i64 3, .int .i64 0, .int .i64 0, .slice (some ⟨bc, oc, none⟩) 2 cc] 30)).alloc (Obj.cells #[.int .i64 kf, .slice (some ⟨bf, of, none⟩) 2 cf] 25)).alloc (Obj.cells #[.int .i64 kt, .slice (some ⟨bt, ot, none⟩) 2 ct] 25))).heap.size (((w.alloc (Obj.cells #[.int .i64 3, .int .i64 0, .int .i64 0, .slice (some ⟨bc, oc, none⟩) 2 cc] 30)).alloc (Obj.cells #[.int .i64 kf, .slice (some ⟨bf, of, none⟩) 2 cf] 25)).alloc (Obj.cells #[.int .i64 kt, .slice (some ⟨bt, ot, none⟩) 2 ct] 25)) _ → _) ?_; exact hk0)
    clear hK K hS0
    try simp only [Act.put, List.setIfInBounds_toArray, List.set_cons_zero, List.set_cons_succ]
    refine regTake (i := 22) (v := .bool false) rfl (by kernel_rfl) (by kernel_rfl) (by kernel_rfl) (fun _ _ _ h => h) (Or.inl ⟨by rfl, ?hyn7_22⟩) (by assumption) ?_
    case hyn7_22 => (intro w hSw; (try dsimp only at hSw); go_simp; (try with_reducible rfl))
    try simp only [Act.put, List.setIfInBounds_toArray, List.set_cons_zero, List.set_cons_succ]
    refine regTake (i := 23) (v := ?vn7_23) rfl (by kernel_rfl) (by kernel_rfl) (by kernel_rfl) (fun _ _ _ h => h) (Or.inl ⟨by rfl, ?hyn7_23⟩) (by assumption) ?_
    case hyn7_23 => (intro w hSw; (try dsimp only at hSw); go_simp; (try with_reducible rfl))
    try simp only [Act.put, List.setIfInBounds_toArray, List.set_cons_zero, List.set_cons_succ]
    refine regTake (i := 24) (v := undef) rfl (by kernel_rfl) (by kernel_rfl) (by kernel_rfl) (fun _ _ _ h => h) (Or.inr ⟨by rfl, rfl⟩) (by assumption) ?_
    try simp only [Act.put, List.setIfInBounds_toArray, List.set_cons_zero, List.set_cons_succ]
    refine regTake (i := 25) (v := undef) rfl (by kernel_rfl) (by kernel_rfl) (by kernel_rfl) (fun _ _ _ h => h) (Or.inr ⟨by rfl, rfl⟩) (by assumption) ?_
    try simp only [Act.put, List.setIfInBounds_toArray, List.set_cons_zero, List.set_cons_succ]
    refine regTake (i := 26) (v := undef) rfl (by kernel_rfl) (by kernel_rfl) (by kernel_rfl) (fun _ _ _ h => h) (Or.inr ⟨by rfl, rfl⟩) (by assumption) ?_
    try simp only [Act.put, List.setIfInBounds_toArray, List.set_cons_zero, List.set_cons_succ]
    refine regTake (i := 27) (v := undef) rfl (by kernel_rfl) (by kernel_rfl) (by kernel_rfl) (fun _ _ _ h => h) (Or.inr ⟨by rfl, rfl⟩) (by assumption) ?_
    try simp only [Act.put, List.setIfInBounds_toArray, List.set_cons_zero, List.set_cons_succ]
    refine regTake (i := 28) (v := undef) rfl (by kernel_rfl) (by kernel_rfl) (by kernel_rfl) (fun _ _ _ h => h) (Or.inr ⟨by rfl, rfl⟩) (by assumption) ?_
    try simp only [Act.put, List.setIfInBounds_toArray, List.set_cons_zero, List.set_cons_succ]
    refine regTake (i := 29) (v := undef) rfl (by kernel_rfl) (by kernel_rfl) (by kernel_rfl) (fun _ _ _ h => h) (Or.inr ⟨by rfl, rfl⟩) (by assumption) ?_
    try simp only [Act.put, List.setIfInBounds_toArray, List.set_cons_zero, List.set_cons_succ]
    refine regTake (i := 30) (v := undef) rfl (by kernel_rfl) (by kernel_rfl) (by kernel_rfl) (fun _ _ _ h => h) (Or.inr ⟨by rfl, rfl⟩) (by assumption) ?_
    try simp only [Act.put, List.setIfInBounds_toArray, List.set_cons_zero, List.set_cons_succ]
    refine regTake (i := 31) (v := undef) rfl (by kernel_rfl) (by kernel_rfl) (by kernel_rfl) (fun _ _ _ h => h) (Or.inr ⟨by rfl, rfl⟩) (by assumption) ?_
    try simp only [Act.put, List.setIfInBounds_toArray, List.set_cons_zero, List.set_cons_succ]
    refine regTake (i := 32) (v := undef) rfl (by kernel_rfl) (by kernel_rfl) (by kernel_rfl) (fun _ _ _ h => h) (Or.inr ⟨by rfl, rfl⟩) (by assumption) ?_
    try simp only [Act.put, List.setIfInBounds_toArray, List.set_cons_zero, List.set_cons_succ]
    refine regTake (i := 33) (v := undef) rfl (by kernel_rfl) (by kernel_rfl) (by kernel_rfl) (fun _ _ _ h => h) (Or.inr ⟨by rfl, rfl⟩) (by assumption) ?_
    try simp only [Act.put, List.setIfInBounds_toArray, List.set_cons_zero, List.set_cons_succ]
    refine regTake (i := 34) (v := undef) rfl (by kernel_rfl) (by kernel_rfl) (by kernel_rfl) (fun _ _ _ h => h) (Or.inr ⟨by rfl, rfl⟩) (by assumption) ?_
    try simp only [Act.put, List.setIfInBounds_toArray, List.set_cons_zero, List.set_cons_succ]
    refine regTake (i := 35) (v := undef) rfl (by kernel_rfl) (by kernel_rfl) (by kernel_rfl) (fun _ _ _ h => h) (Or.inr ⟨by rfl, rfl⟩) (by assumption) ?_
    try simp only [Act.put, List.setIfInBounds_toArray, List.set_cons_zero, List.set_cons_succ]
    refine regTake (i := 36) (v := undef) rfl (by kernel_rfl) (by kernel_rfl) (by kernel_rfl) (fun _ _ _ h => h) (Or.inr ⟨by rfl, rfl⟩) (by assumption) ?_
    try simp only [Act.put, List.setIfInBounds_toArray, List.set_cons_zero, List.set_cons_succ]
    refine regTake (i := 37) (v := .bool false) rfl (by kernel_rfl) (by kernel_rfl) (by kernel_rfl) (fun _ _ _ h => h) (Or.inl ⟨by rfl, ?hyn7_37⟩) (by assumption) ?_
    case hyn7_37 => (intro w hSw; (try dsimp only at hSw); go_simp; (try with_reducible rfl))
    try simp only [Act.put, List.setIfInBounds_toArray, List.set_cons_zero, List.set_cons_succ]
    refine regTake (i := 38) (v := ?vn7_38) rfl (by kernel_rfl) (by kernel_rfl) (by kernel_rfl) (fun _ _ _ h => h) (Or.inl ⟨by rfl, ?hyn7_38⟩) (by assumption) ?_
    case hyn7_38 => (intro w hSw; (try dsimp only at hSw); go_simp; (try with_reducible rfl))
    try simp only [Act.put, List.setIfInBounds_toArray, List.set_cons_zero, List.set_cons_succ]
    refine wpAnyH_done (by kernel_rfl) ?_ _
    go_wp2_with fail
    go_ret
    exact ⟨ret_b HT.out.symm, below_trans hb0 (hk0)⟩
  | true =>
    have HV := hid hv
    rw [hv, Bool.true_and] at HT
    generalize hr : typC n b f2 t2 = r at *
    have HV2 := hid hr
    clear hv hr
    go_enter Try.func51, Try.ntmps51
    go_wp2_with fail
    refine wp_region_held_drew (S := (fun w' => Below ((((w.alloc (Obj.cells #[.int .i64 3, .int .i64 0, .int .i64 0, .slice (some ⟨bc, oc, none⟩) 2 cc] 30)).alloc (Obj.cells #[.int .i64 kf, .slice (some ⟨bf, of, none⟩) 2 cf] 25)).alloc (Obj.cells #[.int .i64 kt, .slice (some ⟨bt, ot, none⟩) 2 ct] 25))).heap.size (((w.alloc (Obj.cells #[.int .i64 3, .int .i64 0, .int .i64 0, .slice (some ⟨bc, oc, none⟩) 2 cc] 30)).alloc (Obj.cells #[.int .i64 kf, .slice (some ⟨bf, of, none⟩) 2 cf] 25)).alloc (Obj.cells #[.int .i64 kt, .slice (some ⟨bt, ot, none⟩) 2 ct] 25)) w' ∧ w'.cell? ⟨w.heap.size, 0, none⟩ = some (.int .i64 3) ∧ w'.cell? ⟨w.heap.size, 1, none⟩ = some (.int .i64 0) ∧ w'.cell? ⟨w.heap.size, 2, none⟩ = some (.int .i64 0) ∧ w'.cell? ⟨w.heap.size, 3, none⟩ = some (.slice (some ⟨bc, oc, none⟩) 2 cc) ∧ w'.cell? ⟨w.heap.size + 1, 0, none⟩ = some (.int .i64 kf) ∧ w'.cell? ⟨w.heap.size + 1, 1, none⟩ = some (.slice (some ⟨bf, of, none⟩) 2 cf) ∧ w'.cell? ⟨w.heap.size + 1 + 1, 0, none⟩ = some (.int .i64 kt) ∧ w'.cell? ⟨w.heap.size + 1 + 1, 1, none⟩ = some (.slice (some ⟨bt, ot, none⟩) 2 ct) ∧ w'.cell? ⟨bc, oc, none⟩ = some (.int .i64 ka) ∧ w'.cell? ⟨bc, oc + 1, none⟩ = some (.int .i64 ga) ∧ w'.cell? ⟨bc, oc + 2, none⟩ = some (.int .i64 la) ∧ w'.cell? ⟨bc, oc + 3, none⟩ = some (.slice aa na ca) ∧ w'.cell? ⟨bc, oc + 4, none⟩ = some (.int .i64 kb) ∧ w'.cell? ⟨bc, oc + 4 + 1, none⟩ = some (.int .i64 gb) ∧ w'.cell? ⟨bc, oc + 4 + 2, none⟩ = some (.int .i64 lb) ∧ w'.cell? ⟨bc, oc + 4 + 3, none⟩ = some (.slice ab nb cb) ∧ w'.cell? ⟨bf, of, none⟩ = some (.int .i64 k1) ∧ w'.cell? ⟨bf, of + 1, none⟩ = some (.slice a1 n1 c1) ∧ w'.cell? ⟨bf, of + 2, none⟩ = some (.int .i64 k2) ∧ w'.cell? ⟨bf, of + 2 + 1, none⟩ = some (.slice a2 n2 c2) ∧ w'.cell? ⟨bt, ot, none⟩ = some (.int .i64 k3) ∧ w'.cell? ⟨bt, ot + 1, none⟩ = some (.slice a3 n3 c3) ∧ w'.cell? ⟨bt, ot + 2, none⟩ = some (.int .i64 k4) ∧ w'.cell? ⟨bt, ot + 2 + 1, none⟩ = some (.slice a4 n4 c4))) (by kernel_rfl) ?_ (fun hS0 => ?_)
    · (refine (fun hB => ⟨hB, cell_keep xC0 hB, cell_keep xC1 hB, cell_keep xC2 hB, cell_keep xC3 hB, cell_keep xF0 hB, cell_keep xF1 hB, cell_keep xT0 hB, cell_keep xT1 hB, cell_keep d0 hB, cell_keep d1 hB, cell_keep d2 hB, cell_keep d3 hB, cell_keep e0 hB, cell_keep e1 hB, cell_keep e2 hB, cell_keep e3 hB, cell_keep u0 hB, cell_keep u1 hB, cell_keep u2 hB, cell_keep u3 hB, cell_keep v0 hB, cell_keep v1 hB, cell_keep v2 hB, cell_keep v3 hB⟩ : Below ((((w.alloc (Obj.cells #[.int .i64 3, .int .i64 0, .int .i64 0, .slice (some ⟨bc, oc, none⟩) 2 cc] 30)).alloc (Obj.cells #[.int .i64 kf, .slice (some ⟨bf, of, none⟩) 2 cf] 25)).alloc (Obj.cells #[.int .i64 kt, .slice (some ⟨bt, ot, none⟩) 2 ct] 25))).heap.size (((w.alloc (Obj.cells #[.int .i64 3, .int .i64 0, .int .i64 0, .slice (some ⟨bc, oc, none⟩) 2 cc] 30)).alloc (Obj.cells #[.int .i64 kf, .slice (some ⟨bf, of, none⟩) 2 cf] 25)).alloc (Obj.cells #[.int .i64 kt, .slice (some ⟨bt, ot, none⟩) 2 ct] 25)) _ → _) ?_; exact below_drew _)
    refine regTake (i := 0) (v := ?vn8_0) rfl (by kernel_rfl) (by kernel_rfl) (by kernel_rfl) (fun _ _ _ h => h) (Or.inl ⟨by rfl, ?hyn8_0⟩) (by assumption) ?_
    case hyn8_0 => (intro w hSw; (try dsimp only at hSw); go_simp; (try with_reducible rfl))
    try simp only [Act.put, List.setIfInBounds_toArray, List.set_cons_zero, List.set_cons_succ]
    refine regTake (i := 1) (v := ?vn8_1) rfl (by kernel_rfl) (by kernel_rfl) (by kernel_rfl) (fun _ _ _ h => h) (Or.inl ⟨by rfl, ?hyn8_1⟩) (by assumption) ?_
    case hyn8_1 => (intro w hSw; (try dsimp only at hSw); go_simp; (try with_reducible rfl))
    try simp only [Act.put, List.setIfInBounds_toArray, List.set_cons_zero, List.set_cons_succ]
    refine regTake (i := 2) (v := ?vn8_2) rfl (by kernel_rfl) (by kernel_rfl) (by kernel_rfl) (fun _ _ _ h => h) (Or.inl ⟨by rfl, ?hyn8_2⟩) (by assumption) ?_
    case hyn8_2 => (intro w hSw; (try dsimp only at hSw); go_simp; (try with_reducible rfl))
    try simp only [Act.put, List.setIfInBounds_toArray, List.set_cons_zero, List.set_cons_succ]
    refine regTake (i := 3) (v := ?vn8_3) rfl (by kernel_rfl) (by kernel_rfl) (by kernel_rfl) (fun _ _ _ h => h) (Or.inl ⟨by rfl, ?hyn8_3⟩) (by assumption) ?_
    case hyn8_3 => (intro w hSw; (try dsimp only at hSw); go_simp; (try with_reducible rfl))
    try simp only [Act.put, List.setIfInBounds_toArray, List.set_cons_zero, List.set_cons_succ]
    refine regTake (i := 4) (v := ?vn8_4) rfl (by kernel_rfl) (by kernel_rfl) (by kernel_rfl) (fun _ _ _ h => h) (Or.inl ⟨by rfl, ?hyn8_4⟩) (by assumption) ?_
    case hyn8_4 => (intro w hSw; (try dsimp only at hSw); go_simp; (try with_reducible rfl))
    try simp only [Act.put, List.setIfInBounds_toArray, List.set_cons_zero, List.set_cons_succ]
    refine regTake (i := 5) (v := ?vn8_5) rfl (by kernel_rfl) (by kernel_rfl) (by kernel_rfl) (fun _ _ _ h => h) (Or.inl ⟨by rfl, ?hyn8_5⟩) (by assumption) ?_
    case hyn8_5 => (intro w hSw; (try dsimp only at hSw); go_simp; (try with_reducible rfl))
    try simp only [Act.put, List.setIfInBounds_toArray, List.set_cons_zero, List.set_cons_succ]
    refine regTake (i := 6) (v := ?vn8_6) rfl (by kernel_rfl) (by kernel_rfl) (by kernel_rfl) (fun _ _ _ h => h) (Or.inl ⟨by rfl, ?hyn8_6⟩) (by assumption) ?_
    case hyn8_6 => (intro w hSw; (try dsimp only at hSw); go_simp; (try with_reducible rfl))
    try simp only [Act.put, List.setIfInBounds_toArray, List.set_cons_zero, List.set_cons_succ]
    refine regTake (i := 7) (v := .bool true) rfl (by kernel_rfl) (by kernel_rfl) (by kernel_rfl) (fun _ _ _ h => h) (Or.inl ⟨by rfl, ?hyn8_7⟩) (by assumption) ?_
    case hyn8_7 => (intro w hSw; (try dsimp only at hSw); go_simp; (try with_reducible rfl))
    try simp only [Act.put, List.setIfInBounds_toArray, List.set_cons_zero, List.set_cons_succ]
    refine regTake (i := 8) (v := ?vn8_8) rfl (by kernel_rfl) (by kernel_rfl) (by kernel_rfl) (fun _ _ _ h => h) (Or.inl ⟨by rfl, ?hyn8_8⟩) (by assumption) ?_
    case hyn8_8 => (intro w hSw; (try dsimp only at hSw); go_simp; (try with_reducible rfl))
    try simp only [Act.put, List.setIfInBounds_toArray, List.set_cons_zero, List.set_cons_succ]
    refine regTake (i := 9) (v := ?vn8_9) rfl (by kernel_rfl) (by kernel_rfl) (by kernel_rfl) (fun _ _ _ h => h) (Or.inl ⟨by rfl, ?hyn8_9⟩) (by assumption) ?_
    case hyn8_9 => (intro w hSw; (try dsimp only at hSw); go_simp; (try with_reducible rfl))
    try simp only [Act.put, List.setIfInBounds_toArray, List.set_cons_zero, List.set_cons_succ]
    refine regTake (i := 10) (v := ?vn8_10) rfl (by kernel_rfl) (by kernel_rfl) (by kernel_rfl) (fun _ _ _ h => h) (Or.inl ⟨by rfl, ?hyn8_10⟩) (by assumption) ?_
    case hyn8_10 => (intro w hSw; (try dsimp only at hSw); go_simp; (try with_reducible rfl))
    try simp only [Act.put, List.setIfInBounds_toArray, List.set_cons_zero, List.set_cons_succ]
    refine regTake (i := 11) (v := ?vn8_11) rfl (by kernel_rfl) (by kernel_rfl) (by kernel_rfl) (fun _ _ _ h => h) (Or.inl ⟨by rfl, ?hyn8_11⟩) (by assumption) ?_
    case hyn8_11 => (intro w hSw; (try dsimp only at hSw); go_simp; (try with_reducible rfl))
    try simp only [Act.put, List.setIfInBounds_toArray, List.set_cons_zero, List.set_cons_succ]
    refine regTake (i := 12) (v := ?vn8_12) rfl (by kernel_rfl) (by kernel_rfl) (by kernel_rfl) (fun _ _ _ h => h) (Or.inl ⟨by rfl, ?hyn8_12⟩) (by assumption) ?_
    case hyn8_12 => (intro w hSw; (try dsimp only at hSw); go_simp; (try with_reducible rfl))
    try simp only [Act.put, List.setIfInBounds_toArray, List.set_cons_zero, List.set_cons_succ]
    refine regTake (i := 13) (v := ?vn8_13) rfl (by kernel_rfl) (by kernel_rfl) (by kernel_rfl) (fun _ _ _ h => h) (Or.inl ⟨by rfl, ?hyn8_13⟩) (by assumption) ?_
    case hyn8_13 => (intro w hSw; (try dsimp only at hSw); go_simp; (try with_reducible rfl))
    try simp only [Act.put, List.setIfInBounds_toArray, List.set_cons_zero, List.set_cons_succ]
    refine regTake (i := 14) (v := ?vn8_14) rfl (by kernel_rfl) (by kernel_rfl) (by kernel_rfl) (fun _ _ _ h => h) (Or.inl ⟨by rfl, ?hyn8_14⟩) (by assumption) ?_
    case hyn8_14 => (intro w hSw; (try dsimp only at hSw); go_simp; (try with_reducible rfl))
    try simp only [Act.put, List.setIfInBounds_toArray, List.set_cons_zero, List.set_cons_succ]
    refine regTake (i := 15) (v := ?vn8_15) rfl (by kernel_rfl) (by kernel_rfl) (by kernel_rfl) (fun _ _ _ h => h) (Or.inl ⟨by rfl, ?hyn8_15⟩) (by assumption) ?_
    case hyn8_15 => (intro w hSw; (try dsimp only at hSw); go_simp; (try with_reducible rfl))
    try simp only [Act.put, List.setIfInBounds_toArray, List.set_cons_zero, List.set_cons_succ]
    refine regTake (i := 16) (v := ?vn8_16) rfl (by kernel_rfl) (by kernel_rfl) (by kernel_rfl) (fun _ _ _ h => h) (Or.inl ⟨by rfl, ?hyn8_16⟩) (by assumption) ?_
    case hyn8_16 => (intro w hSw; (try dsimp only at hSw); go_simp; (try with_reducible rfl))
    try simp only [Act.put, List.setIfInBounds_toArray, List.set_cons_zero, List.set_cons_succ]
    refine regTake (i := 17) (v := ?vn8_17) rfl (by kernel_rfl) (by kernel_rfl) (by kernel_rfl) (fun _ _ _ h => h) (Or.inl ⟨by rfl, ?hyn8_17⟩) (by assumption) ?_
    case hyn8_17 => (intro w hSw; (try dsimp only at hSw); go_simp; (try with_reducible rfl))
    try simp only [Act.put, List.setIfInBounds_toArray, List.set_cons_zero, List.set_cons_succ]
    refine regTake (i := 18) (v := ?vn8_18) rfl (by kernel_rfl) (by kernel_rfl) (by kernel_rfl) (fun _ _ _ h => h) (Or.inl ⟨by rfl, ?hyn8_18⟩) (by assumption) ?_
    case hyn8_18 => (intro w hSw; (try dsimp only at hSw); go_simp; (try with_reducible rfl))
    try simp only [Act.put, List.setIfInBounds_toArray, List.set_cons_zero, List.set_cons_succ]
    refine regTake (i := 19) (v := ?vn8_19) rfl (by kernel_rfl) (by kernel_rfl) (by kernel_rfl) (fun _ _ _ h => h) (Or.inl ⟨by rfl, ?hyn8_19⟩) (by assumption) ?_
    case hyn8_19 => (intro w hSw; (try dsimp only at hSw); go_simp; (try with_reducible rfl))
    try simp only [Act.put, List.setIfInBounds_toArray, List.set_cons_zero, List.set_cons_succ]
    refine regTake (i := 20) (v := ?vn8_20) rfl (by kernel_rfl) (by kernel_rfl) (by kernel_rfl) (fun _ _ _ h => h) (Or.inl ⟨by rfl, ?hyn8_20⟩) (by assumption) ?_
    case hyn8_20 => (intro w hSw; (try dsimp only at hSw); go_simp; (try with_reducible rfl))
    try simp only [Act.put, List.setIfInBounds_toArray, List.set_cons_zero, List.set_cons_succ]
    refine wpAnyH_ready (rs := [21]) (by kernel_rfl) (by simp) ?_
    refine regCons rfl (fun K hK => ?_)
    go_simp
    refine (HIH.out a f1 t1 _ _ _ _ _ _ _ HP.out.1 HP.out.2.2.1 HP.out.2.2.2.2.1 (H.out.1.below (below_drew _)) (H.out.2.2.1.below (below_drew _)) (H.out.2.2.2.2.1.below (below_drew _))).mono ?_
    rw [HV.out]
    rintro e w1 ⟨rfl, hb1⟩
    have hk0 := below_trans (below_drew (((w.alloc (Obj.cells #[.int .i64 3, .int .i64 0, .int .i64 0, .slice (some ⟨bc, oc, none⟩) 2 cc] 30)).alloc (Obj.cells #[.int .i64 kf, .slice (some ⟨bf, of, none⟩) 2 cf] 25)).alloc (Obj.cells #[.int .i64 kt, .slice (some ⟨bt, ot, none⟩) 2 ct] 25))) hb1
    refine hK.out _ _ ?_ (fun hS1 => ?_)
    · (refine (fun hB => ⟨hB, cell_keep xC0 hB, cell_keep xC1 hB, cell_keep xC2 hB, cell_keep xC3 hB, cell_keep xF0 hB, cell_keep xF1 hB, cell_keep xT0 hB, cell_keep xT1 hB, cell_keep d0 hB, cell_keep d1 hB, cell_keep d2 hB, cell_keep d3 hB, cell_keep e0 hB, cell_keep e1 hB, cell_keep e2 hB, cell_keep e3 hB, cell_keep u0 hB, cell_keep u1 hB, cell_keep u2 hB, cell_keep u3 hB, cell_keep v0 hB, cell_keep v1 hB, cell_keep v2 hB, cell_keep v3 hB⟩ : Below ((((w.alloc (Obj.cells #[.int .i64 3, .int .i64 0, .int .i64 0, .slice (some ⟨bc, oc, none⟩) 2 cc] 30)).alloc (Obj.cells #[.int .i64 kf, .slice (some ⟨bf, of, none⟩) 2 cf] 25)).alloc (Obj.cells #[.int .i64 kt, .slice (some ⟨bt, ot, none⟩) 2 ct] 25))).heap.size (((w.alloc (Obj.cells #[.int .i64 3, .int .i64 0, .int .i64 0, .slice (some ⟨bc, oc, none⟩) 2 cc] 30)).alloc (Obj.cells #[.int .i64 kf, .slice (some ⟨bf, of, none⟩) 2 cf] 25)).alloc (Obj.cells #[.int .i64 kt, .slice (some ⟨bt, ot, none⟩) 2 ct] 25)) _ → _) ?_; exact hk0)
    clear hK K hS0
    try simp only [Act.put, List.setIfInBounds_toArray, List.set_cons_zero, List.set_cons_succ]
    refine regTake (i := 22) (v := .bool true) rfl (by kernel_rfl) (by kernel_rfl) (by kernel_rfl) (fun _ _ _ h => h) (Or.inl ⟨by rfl, ?hyn8_22⟩) (by assumption) ?_
    case hyn8_22 => (intro w hSw; (try dsimp only at hSw); go_simp; (try with_reducible rfl))
    try simp only [Act.put, List.setIfInBounds_toArray, List.set_cons_zero, List.set_cons_succ]
    refine regTake (i := 23) (v := ?vn8_23) rfl (by kernel_rfl) (by kernel_rfl) (by kernel_rfl) (fun _ _ _ h => h) (Or.inl ⟨by rfl, ?hyn8_23⟩) (by assumption) ?_
    case hyn8_23 => (intro w hSw; (try dsimp only at hSw); go_simp; (try with_reducible rfl))
    try simp only [Act.put, List.setIfInBounds_toArray, List.set_cons_zero, List.set_cons_succ]
    refine regTake (i := 24) (v := ?vn8_24) rfl (by kernel_rfl) (by kernel_rfl) (by kernel_rfl) (fun _ _ _ h => h) (Or.inl ⟨by rfl, ?hyn8_24⟩) (by assumption) ?_
    case hyn8_24 => (intro w hSw; (try dsimp only at hSw); go_simp; (try with_reducible rfl))
    try simp only [Act.put, List.setIfInBounds_toArray, List.set_cons_zero, List.set_cons_succ]
    refine regTake (i := 25) (v := ?vn8_25) rfl (by kernel_rfl) (by kernel_rfl) (by kernel_rfl) (fun _ _ _ h => h) (Or.inl ⟨by rfl, ?hyn8_25⟩) (by assumption) ?_
    case hyn8_25 => (intro w hSw; (try dsimp only at hSw); go_simp; (try with_reducible rfl))
    try simp only [Act.put, List.setIfInBounds_toArray, List.set_cons_zero, List.set_cons_succ]
    refine regTake (i := 26) (v := ?vn8_26) rfl (by kernel_rfl) (by kernel_rfl) (by kernel_rfl) (fun _ _ _ h => h) (Or.inl ⟨by rfl, ?hyn8_26⟩) (by assumption) ?_
    case hyn8_26 => (intro w hSw; (try dsimp only at hSw); go_simp; (try with_reducible rfl))
    try simp only [Act.put, List.setIfInBounds_toArray, List.set_cons_zero, List.set_cons_succ]
    refine regTake (i := 27) (v := ?vn8_27) rfl (by kernel_rfl) (by kernel_rfl) (by kernel_rfl) (fun _ _ _ h => h) (Or.inl ⟨by rfl, ?hyn8_27⟩) (by assumption) ?_
    case hyn8_27 => (intro w hSw; (try dsimp only at hSw); go_simp; (try with_reducible rfl))
    try simp only [Act.put, List.setIfInBounds_toArray, List.set_cons_zero, List.set_cons_succ]
    refine regTake (i := 28) (v := ?vn8_28) rfl (by kernel_rfl) (by kernel_rfl) (by kernel_rfl) (fun _ _ _ h => h) (Or.inl ⟨by rfl, ?hyn8_28⟩) (by assumption) ?_
    case hyn8_28 => (intro w hSw; (try dsimp only at hSw); go_simp; (try with_reducible rfl))
    try simp only [Act.put, List.setIfInBounds_toArray, List.set_cons_zero, List.set_cons_succ]
    refine regTake (i := 29) (v := ?vn8_29) rfl (by kernel_rfl) (by kernel_rfl) (by kernel_rfl) (fun _ _ _ h => h) (Or.inl ⟨by rfl, ?hyn8_29⟩) (by assumption) ?_
    case hyn8_29 => (intro w hSw; (try dsimp only at hSw); go_simp; (try with_reducible rfl))
    try simp only [Act.put, List.setIfInBounds_toArray, List.set_cons_zero, List.set_cons_succ]
    refine regTake (i := 30) (v := ?vn8_30) rfl (by kernel_rfl) (by kernel_rfl) (by kernel_rfl) (fun _ _ _ h => h) (Or.inl ⟨by rfl, ?hyn8_30⟩) (by assumption) ?_
    case hyn8_30 => (intro w hSw; (try dsimp only at hSw); go_simp; (try with_reducible rfl))
    try simp only [Act.put, List.setIfInBounds_toArray, List.set_cons_zero, List.set_cons_succ]
    refine regTake (i := 31) (v := ?vn8_31) rfl (by kernel_rfl) (by kernel_rfl) (by kernel_rfl) (fun _ _ _ h => h) (Or.inl ⟨by rfl, ?hyn8_31⟩) (by assumption) ?_
    case hyn8_31 => (intro w hSw; (try dsimp only at hSw); go_simp; (try with_reducible rfl))
    try simp only [Act.put, List.setIfInBounds_toArray, List.set_cons_zero, List.set_cons_succ]
    refine regTake (i := 32) (v := ?vn8_32) rfl (by kernel_rfl) (by kernel_rfl) (by kernel_rfl) (fun _ _ _ h => h) (Or.inl ⟨by rfl, ?hyn8_32⟩) (by assumption) ?_
    case hyn8_32 => (intro w hSw; (try dsimp only at hSw); go_simp; (try with_reducible rfl))
    try simp only [Act.put, List.setIfInBounds_toArray, List.set_cons_zero, List.set_cons_succ]
    refine regTake (i := 33) (v := ?vn8_33) rfl (by kernel_rfl) (by kernel_rfl) (by kernel_rfl) (fun _ _ _ h => h) (Or.inl ⟨by rfl, ?hyn8_33⟩) (by assumption) ?_
    case hyn8_33 => (intro w hSw; (try dsimp only at hSw); go_simp; (try with_reducible rfl))
    try simp only [Act.put, List.setIfInBounds_toArray, List.set_cons_zero, List.set_cons_succ]
    refine regTake (i := 34) (v := ?vn8_34) rfl (by kernel_rfl) (by kernel_rfl) (by kernel_rfl) (fun _ _ _ h => h) (Or.inl ⟨by rfl, ?hyn8_34⟩) (by assumption) ?_
    case hyn8_34 => (intro w hSw; (try dsimp only at hSw); go_simp; (try with_reducible rfl))
    try simp only [Act.put, List.setIfInBounds_toArray, List.set_cons_zero, List.set_cons_succ]
    refine regTake (i := 35) (v := ?vn8_35) rfl (by kernel_rfl) (by kernel_rfl) (by kernel_rfl) (fun _ _ _ h => h) (Or.inl ⟨by rfl, ?hyn8_35⟩) (by assumption) ?_
    case hyn8_35 => (intro w hSw; (try dsimp only at hSw); go_simp; (try with_reducible rfl))
    try simp only [Act.put, List.setIfInBounds_toArray, List.set_cons_zero, List.set_cons_succ]
    refine wpAnyH_ready (rs := [36]) (by kernel_rfl) (by simp) ?_
    refine regCons rfl (fun K hK => ?_)
    go_simp
    refine (HIH.out b f2 t2 _ _ _ _ _ _ _ HP.out.2.1 HP.out.2.2.2.1 HP.out.2.2.2.2.2 (H.out.2.1.below hk0) (H.out.2.2.2.1.below hk0) (H.out.2.2.2.2.2.below hk0)).mono ?_
    rw [HV2.out]
    rintro e w2 ⟨rfl, hb2⟩
    have hk1 := below_trans hk0 hb2
    refine hK.out _ _ ?_ (fun hS2 => ?_)
    · (refine (fun hB => ⟨hB, cell_keep xC0 hB, cell_keep xC1 hB, cell_keep xC2 hB, cell_keep xC3 hB, cell_keep xF0 hB, cell_keep xF1 hB, cell_keep xT0 hB, cell_keep xT1 hB, cell_keep d0 hB, cell_keep d1 hB, cell_keep d2 hB, cell_keep d3 hB, cell_keep e0 hB, cell_keep e1 hB, cell_keep e2 hB, cell_keep e3 hB, cell_keep u0 hB, cell_keep u1 hB, cell_keep u2 hB, cell_keep u3 hB, cell_keep v0 hB, cell_keep v1 hB, cell_keep v2 hB, cell_keep v3 hB⟩ : Below ((((w.alloc (Obj.cells #[.int .i64 3, .int .i64 0, .int .i64 0, .slice (some ⟨bc, oc, none⟩) 2 cc] 30)).alloc (Obj.cells #[.int .i64 kf, .slice (some ⟨bf, of, none⟩) 2 cf] 25)).alloc (Obj.cells #[.int .i64 kt, .slice (some ⟨bt, ot, none⟩) 2 ct] 25))).heap.size (((w.alloc (Obj.cells #[.int .i64 3, .int .i64 0, .int .i64 0, .slice (some ⟨bc, oc, none⟩) 2 cc] 30)).alloc (Obj.cells #[.int .i64 kf, .slice (some ⟨bf, of, none⟩) 2 cf] 25)).alloc (Obj.cells #[.int .i64 kt, .slice (some ⟨bt, ot, none⟩) 2 ct] 25)) _ → _) ?_; exact hk1)
    clear hK K hS1
    try simp only [Act.put, List.setIfInBounds_toArray, List.set_cons_zero, List.set_cons_succ]
    refine regTake (i := 37) (v := .bool r) rfl (by kernel_rfl) (by kernel_rfl) (by kernel_rfl) (fun _ _ _ h => h) (Or.inl ⟨by rfl, ?hyn8_37⟩) (by assumption) ?_
    case hyn8_37 => (intro w hSw; (try dsimp only at hSw); go_simp; (try with_reducible rfl))
    try simp only [Act.put, List.setIfInBounds_toArray, List.set_cons_zero, List.set_cons_succ]
    refine regTake (i := 38) (v := ?vn8_38) rfl (by kernel_rfl) (by kernel_rfl) (by kernel_rfl) (fun _ _ _ h => h) (Or.inl ⟨by rfl, ?hyn8_38⟩) (by assumption) ?_
    case hyn8_38 => (intro w hSw; (try dsimp only at hSw); go_simp; (try with_reducible rfl))
    try simp only [Act.put, List.setIfInBounds_toArray, List.set_cons_zero, List.set_cons_succ]
    refine wpAnyH_done (by kernel_rfl) ?_ _
    go_wp2_with fail
    go_ret
    exact ⟨ret_b HT.out.symm, below_trans hb0 (hk1)⟩

set_option maxRecDepth 100000 in
set_option maxHeartbeats 4000000 in
theorem leads_inj (n : Nat) (ih : LdC n) (a : Co) (f t : Ty) (vc vf vt : Value) (fc ff ft : List Nat) (w : World) (hsa : shpK n a = true) (_hpl : plainC a = true) (hf4 : shp 4 f = true) (ht4 : shp 4 t = true) (hatc : (Co.mk 4 0 0 [a]).At w vc fc) (hatf : f.At w vf ff) (hatt : t.At w vt ft) :
    Calls Try.prog 51 #[vc, vf, vt] w fun e w' => e = .returned (.bool (typC (n + 1) (.mk 4 0 0 [a]) f t)) ∧ Below w.heap.size w w' := by
  obtain ⟨sc, rfl, hsc⟩ := Co.at_mk.1 hatc
  have hatc0 := hatc
  obtain ⟨bc, oc, cc, ka, ga, la, na, aa, ca, fa, rfl, hbc, d0, d1, d2, d3, hA, _, hcc⟩ := hsc.one
  obtain ⟨kf, fs, rfl⟩ := f.shape
  obtain ⟨kt, ts, rfl⟩ := t.shape
  have hatf0 := hatf
  have hatt0 := hatt
  obtain ⟨sf, rfl, hsf⟩ := Ty.at_mk.1 hatf
  obtain ⟨st, rfl, hst⟩ := Ty.at_mk.1 hatt
  obtain ⟨af, cf, rfl⟩ := hsf.shape
  obtain ⟨at', ct, rfl⟩ := hst.shape
  have HT := hid (show typC (n + 1) (.mk 4 0 0 [a]) (.mk kf fs) (.mk kt ts) = (kt == 1 && (kf == tagC a && typC n a (.mk kf fs) (gk kf))) by simp [typC, kindT])
  generalize hnf : fs.length = nf at *
  generalize hnt : ts.length = nt at *
  have hb0 : Below w.heap.size w (((w.alloc (Obj.cells #[.int .i64 4, .int .i64 0, .int .i64 0, .slice (some ⟨bc, oc, none⟩) 1 cc] 30)).alloc (Obj.cells #[.int .i64 kf, .slice af nf cf] 25)).alloc (Obj.cells #[.int .i64 kt, .slice at' nt ct] 25)) := (((Below.refl _ _).alloc (Nat.le_refl _) _).alloc (by simp) _).alloc (by simp; omega) _
  obtain ⟨bC, bF, bT⟩ := three3 (Below.refl ((((w.alloc (Obj.cells #[.int .i64 4, .int .i64 0, .int .i64 0, .slice (some ⟨bc, oc, none⟩) 1 cc] 30)).alloc (Obj.cells #[.int .i64 kf, .slice af nf cf] 25)).alloc (Obj.cells #[.int .i64 kt, .slice at' nt ct] 25))).heap.size (((w.alloc (Obj.cells #[.int .i64 4, .int .i64 0, .int .i64 0, .slice (some ⟨bc, oc, none⟩) 1 cc] 30)).alloc (Obj.cells #[.int .i64 kf, .slice af nf cf] 25)).alloc (Obj.cells #[.int .i64 kt, .slice at' nt ct] 25)))
  have xC0 : ((((w.alloc (Obj.cells #[.int .i64 4, .int .i64 0, .int .i64 0, .slice (some ⟨bc, oc, none⟩) 1 cc] 30)).alloc (Obj.cells #[.int .i64 kf, .slice af nf cf] 25)).alloc (Obj.cells #[.int .i64 kt, .slice at' nt ct] 25))).cell? ⟨w.heap.size, 0, none⟩ = some (.int .i64 4) := by rw [cell_of_block bC]; rfl
  have xC1 : ((((w.alloc (Obj.cells #[.int .i64 4, .int .i64 0, .int .i64 0, .slice (some ⟨bc, oc, none⟩) 1 cc] 30)).alloc (Obj.cells #[.int .i64 kf, .slice af nf cf] 25)).alloc (Obj.cells #[.int .i64 kt, .slice at' nt ct] 25))).cell? ⟨w.heap.size, 1, none⟩ = some (.int .i64 0) := by rw [cell_of_block bC]; rfl
  have xC2 : ((((w.alloc (Obj.cells #[.int .i64 4, .int .i64 0, .int .i64 0, .slice (some ⟨bc, oc, none⟩) 1 cc] 30)).alloc (Obj.cells #[.int .i64 kf, .slice af nf cf] 25)).alloc (Obj.cells #[.int .i64 kt, .slice at' nt ct] 25))).cell? ⟨w.heap.size, 2, none⟩ = some (.int .i64 0) := by rw [cell_of_block bC]; rfl
  have xC3 : ((((w.alloc (Obj.cells #[.int .i64 4, .int .i64 0, .int .i64 0, .slice (some ⟨bc, oc, none⟩) 1 cc] 30)).alloc (Obj.cells #[.int .i64 kf, .slice af nf cf] 25)).alloc (Obj.cells #[.int .i64 kt, .slice at' nt ct] 25))).cell? ⟨w.heap.size, 3, none⟩ = some (.slice (some ⟨bc, oc, none⟩) 1 cc) := by rw [cell_of_block bC]; rfl
  have xF0 : ((((w.alloc (Obj.cells #[.int .i64 4, .int .i64 0, .int .i64 0, .slice (some ⟨bc, oc, none⟩) 1 cc] 30)).alloc (Obj.cells #[.int .i64 kf, .slice af nf cf] 25)).alloc (Obj.cells #[.int .i64 kt, .slice at' nt ct] 25))).cell? ⟨w.heap.size + 1, 0, none⟩ = some (.int .i64 kf) := by rw [cell_of_block bF]; rfl
  have xF1 : ((((w.alloc (Obj.cells #[.int .i64 4, .int .i64 0, .int .i64 0, .slice (some ⟨bc, oc, none⟩) 1 cc] 30)).alloc (Obj.cells #[.int .i64 kf, .slice af nf cf] 25)).alloc (Obj.cells #[.int .i64 kt, .slice at' nt ct] 25))).cell? ⟨w.heap.size + 1, 1, none⟩ = some (.slice af nf cf) := by rw [cell_of_block bF]; rfl
  have xT0 : ((((w.alloc (Obj.cells #[.int .i64 4, .int .i64 0, .int .i64 0, .slice (some ⟨bc, oc, none⟩) 1 cc] 30)).alloc (Obj.cells #[.int .i64 kf, .slice af nf cf] 25)).alloc (Obj.cells #[.int .i64 kt, .slice at' nt ct] 25))).cell? ⟨w.heap.size + 1 + 1, 0, none⟩ = some (.int .i64 kt) := by rw [cell_of_block bT]; rfl
  have xT1 : ((((w.alloc (Obj.cells #[.int .i64 4, .int .i64 0, .int .i64 0, .slice (some ⟨bc, oc, none⟩) 1 cc] 30)).alloc (Obj.cells #[.int .i64 kf, .slice af nf cf] 25)).alloc (Obj.cells #[.int .i64 kt, .slice at' nt ct] 25))).cell? ⟨w.heap.size + 1 + 1, 1, none⟩ = some (.slice at' nt ct) := by rw [cell_of_block bT]; rfl
  clear bC bF bT
  replace d0 := cell_keep d0 hb0
  replace d1 := cell_keep d1 hb0
  replace d2 := cell_keep d2 hb0
  replace d3 := cell_keep d3 hb0
  have HTG := hid (show tagC (.mk 4 0 0 [a]) = tagC a by simp [tagC, tagL])
  have HTW := hid (show tagWf (n + 1) (.mk 4 0 0 [a]) = true by simp only [tagWf, if_true]; exact tagWf_shp hsa)
  have H := hid (And.intro (hA.below hb0) (And.intro (hatf0.below hb0) (And.intro (hatt0.below hb0) (hatc0.below hb0))))
  have HIH := hid ih
  have HP := hid (And.intro hsa (And.intro hf4 (And.intro (shp_gk hf4) (shp_cnt30 hf4 (by omega)))))
  have HKB := hid (wf_kind (shp_wf hf4))
  have HGG := hid (grd_gk (shp_wf hf4))
  have HKK := hid (show kindT (.mk kf fs) = kf from rfl)
  clear ih hatc hatf hatt hatc0 hatf0 hatt0 hsc hsf hst hA hsa hf4 ht4 hnf hnt
  by_cases hk : kt = 1
  case neg =>
    have q1 : (kt == 1) = false := by simpa using hk
    rw [q1, Bool.false_and] at HT
    clear hk
    go_enter Try.func51, Try.ntmps51
    go_wp2_with fail
    refine wp_region_held_drew (S := (fun w' => Below ((((w.alloc (Obj.cells #[.int .i64 4, .int .i64 0, .int .i64 0, .slice (some ⟨bc, oc, none⟩) 1 cc] 30)).alloc (Obj.cells #[.int .i64 kf, .slice af nf cf] 25)).alloc (Obj.cells #[.int .i64 kt, .slice at' nt ct] 25))).heap.size (((w.alloc (Obj.cells #[.int .i64 4, .int .i64 0, .int .i64 0, .slice (some ⟨bc, oc, none⟩) 1 cc] 30)).alloc (Obj.cells #[.int .i64 kf, .slice af nf cf] 25)).alloc (Obj.cells #[.int .i64 kt, .slice at' nt ct] 25)) w' ∧ w'.cell? ⟨w.heap.size, 0, none⟩ = some (.int .i64 4) ∧ w'.cell? ⟨w.heap.size, 1, none⟩ = some (.int .i64 0) ∧ w'.cell? ⟨w.heap.size, 2, none⟩ = some (.int .i64 0) ∧ w'.cell? ⟨w.heap.size, 3, none⟩ = some (.slice (some ⟨bc, oc, none⟩) 1 cc) ∧ w'.cell? ⟨w.heap.size + 1, 0, none⟩ = some (.int .i64 kf) ∧ w'.cell? ⟨w.heap.size + 1, 1, none⟩ = some (.slice af nf cf) ∧ w'.cell? ⟨w.heap.size + 1 + 1, 0, none⟩ = some (.int .i64 kt) ∧ w'.cell? ⟨w.heap.size + 1 + 1, 1, none⟩ = some (.slice at' nt ct) ∧ w'.cell? ⟨bc, oc, none⟩ = some (.int .i64 ka) ∧ w'.cell? ⟨bc, oc + 1, none⟩ = some (.int .i64 ga) ∧ w'.cell? ⟨bc, oc + 2, none⟩ = some (.int .i64 la) ∧ w'.cell? ⟨bc, oc + 3, none⟩ = some (.slice aa na ca))) (by kernel_rfl) ?_ (fun hS0 => ?_)
    · (refine (fun hB => ⟨hB, cell_keep xC0 hB, cell_keep xC1 hB, cell_keep xC2 hB, cell_keep xC3 hB, cell_keep xF0 hB, cell_keep xF1 hB, cell_keep xT0 hB, cell_keep xT1 hB, cell_keep d0 hB, cell_keep d1 hB, cell_keep d2 hB, cell_keep d3 hB⟩ : Below ((((w.alloc (Obj.cells #[.int .i64 4, .int .i64 0, .int .i64 0, .slice (some ⟨bc, oc, none⟩) 1 cc] 30)).alloc (Obj.cells #[.int .i64 kf, .slice af nf cf] 25)).alloc (Obj.cells #[.int .i64 kt, .slice at' nt ct] 25))).heap.size (((w.alloc (Obj.cells #[.int .i64 4, .int .i64 0, .int .i64 0, .slice (some ⟨bc, oc, none⟩) 1 cc] 30)).alloc (Obj.cells #[.int .i64 kf, .slice af nf cf] 25)).alloc (Obj.cells #[.int .i64 kt, .slice at' nt ct] 25)) _ → _) ?_; exact below_drew _)
    refine regTake (i := 0) (v := ?vn9_0) rfl (by kernel_rfl) (by kernel_rfl) (by kernel_rfl) (fun _ _ _ h => h) (Or.inl ⟨by rfl, ?hyn9_0⟩) (by assumption) ?_
    case hyn9_0 => (intro w hSw; (try dsimp only at hSw); go_simp; (try with_reducible rfl))
    try simp only [Act.put, List.setIfInBounds_toArray, List.set_cons_zero, List.set_cons_succ]
    refine regTake (i := 1) (v := ?vn9_1) rfl (by kernel_rfl) (by kernel_rfl) (by kernel_rfl) (fun _ _ _ h => h) (Or.inl ⟨by rfl, ?hyn9_1⟩) (by assumption) ?_
    case hyn9_1 => (intro w hSw; (try dsimp only at hSw); go_simp; (try with_reducible rfl))
    try simp only [Act.put, List.setIfInBounds_toArray, List.set_cons_zero, List.set_cons_succ]
    refine regTake (i := 2) (v := ?vn9_2) rfl (by kernel_rfl) (by kernel_rfl) (by kernel_rfl) (fun _ _ _ h => h) (Or.inl ⟨by rfl, ?hyn9_2⟩) (by assumption) ?_
    case hyn9_2 => (intro w hSw; (try dsimp only at hSw); go_simp; (try with_reducible rfl))
    try simp only [Act.put, List.setIfInBounds_toArray, List.set_cons_zero, List.set_cons_succ]
    refine regTake (i := 3) (v := ?vn9_3) rfl (by kernel_rfl) (by kernel_rfl) (by kernel_rfl) (fun _ _ _ h => h) (Or.inl ⟨by rfl, ?hyn9_3⟩) (by assumption) ?_
    case hyn9_3 => (intro w hSw; (try dsimp only at hSw); go_simp; (try with_reducible rfl))
    try simp only [Act.put, List.setIfInBounds_toArray, List.set_cons_zero, List.set_cons_succ]
    refine regTake (i := 4) (v := undef) rfl (by kernel_rfl) (by kernel_rfl) (by kernel_rfl) (fun _ _ _ h => h) (Or.inr ⟨by rfl, rfl⟩) (by assumption) ?_
    try simp only [Act.put, List.setIfInBounds_toArray, List.set_cons_zero, List.set_cons_succ]
    refine regTake (i := 5) (v := undef) rfl (by kernel_rfl) (by kernel_rfl) (by kernel_rfl) (fun _ _ _ h => h) (Or.inr ⟨by rfl, rfl⟩) (by assumption) ?_
    try simp only [Act.put, List.setIfInBounds_toArray, List.set_cons_zero, List.set_cons_succ]
    refine regTake (i := 6) (v := undef) rfl (by kernel_rfl) (by kernel_rfl) (by kernel_rfl) (fun _ _ _ h => h) (Or.inr ⟨by rfl, rfl⟩) (by assumption) ?_
    try simp only [Act.put, List.setIfInBounds_toArray, List.set_cons_zero, List.set_cons_succ]
    refine regTake (i := 7) (v := undef) rfl (by kernel_rfl) (by kernel_rfl) (by kernel_rfl) (fun _ _ _ h => h) (Or.inr ⟨by rfl, rfl⟩) (by assumption) ?_
    try simp only [Act.put, List.setIfInBounds_toArray, List.set_cons_zero, List.set_cons_succ]
    refine regTake (i := 8) (v := undef) rfl (by kernel_rfl) (by kernel_rfl) (by kernel_rfl) (fun _ _ _ h => h) (Or.inr ⟨by rfl, rfl⟩) (by assumption) ?_
    try simp only [Act.put, List.setIfInBounds_toArray, List.set_cons_zero, List.set_cons_succ]
    refine regTake (i := 9) (v := .bool false) rfl (by kernel_rfl) (by kernel_rfl) (by kernel_rfl) (fun _ _ _ h => h) (Or.inl ⟨by rfl, ?hyn9_9⟩) (by assumption) ?_
    case hyn9_9 => (intro w hSw; (try dsimp only at hSw); go_simp; (try with_reducible rfl))
    try simp only [Act.put, List.setIfInBounds_toArray, List.set_cons_zero, List.set_cons_succ]
    refine regTake (i := 10) (v := ?vn9_10) rfl (by kernel_rfl) (by kernel_rfl) (by kernel_rfl) (fun _ _ _ h => h) (Or.inl ⟨by rfl, ?hyn9_10⟩) (by assumption) ?_
    case hyn9_10 => (intro w hSw; (try dsimp only at hSw); go_simp; (try with_reducible rfl))
    try simp only [Act.put, List.setIfInBounds_toArray, List.set_cons_zero, List.set_cons_succ]
    refine regTake (i := 11) (v := undef) rfl (by kernel_rfl) (by kernel_rfl) (by kernel_rfl) (fun _ _ _ h => h) (Or.inr ⟨by rfl, rfl⟩) (by assumption) ?_
    try simp only [Act.put, List.setIfInBounds_toArray, List.set_cons_zero, List.set_cons_succ]
    refine regTake (i := 12) (v := undef) rfl (by kernel_rfl) (by kernel_rfl) (by kernel_rfl) (fun _ _ _ h => h) (Or.inr ⟨by rfl, rfl⟩) (by assumption) ?_
    try simp only [Act.put, List.setIfInBounds_toArray, List.set_cons_zero, List.set_cons_succ]
    refine regTake (i := 13) (v := undef) rfl (by kernel_rfl) (by kernel_rfl) (by kernel_rfl) (fun _ _ _ h => h) (Or.inr ⟨by rfl, rfl⟩) (by assumption) ?_
    try simp only [Act.put, List.setIfInBounds_toArray, List.set_cons_zero, List.set_cons_succ]
    refine regTake (i := 14) (v := undef) rfl (by kernel_rfl) (by kernel_rfl) (by kernel_rfl) (fun _ _ _ h => h) (Or.inr ⟨by rfl, rfl⟩) (by assumption) ?_
    try simp only [Act.put, List.setIfInBounds_toArray, List.set_cons_zero, List.set_cons_succ]
    refine regTake (i := 15) (v := undef) rfl (by kernel_rfl) (by kernel_rfl) (by kernel_rfl) (fun _ _ _ h => h) (Or.inr ⟨by rfl, rfl⟩) (by assumption) ?_
    try simp only [Act.put, List.setIfInBounds_toArray, List.set_cons_zero, List.set_cons_succ]
    refine regTake (i := 16) (v := undef) rfl (by kernel_rfl) (by kernel_rfl) (by kernel_rfl) (fun _ _ _ h => h) (Or.inr ⟨by rfl, rfl⟩) (by assumption) ?_
    try simp only [Act.put, List.setIfInBounds_toArray, List.set_cons_zero, List.set_cons_succ]
    refine regTake (i := 17) (v := undef) rfl (by kernel_rfl) (by kernel_rfl) (by kernel_rfl) (fun _ _ _ h => h) (Or.inr ⟨by rfl, rfl⟩) (by assumption) ?_
    try simp only [Act.put, List.setIfInBounds_toArray, List.set_cons_zero, List.set_cons_succ]
    refine regTake (i := 18) (v := undef) rfl (by kernel_rfl) (by kernel_rfl) (by kernel_rfl) (fun _ _ _ h => h) (Or.inr ⟨by rfl, rfl⟩) (by assumption) ?_
    try simp only [Act.put, List.setIfInBounds_toArray, List.set_cons_zero, List.set_cons_succ]
    refine regTake (i := 19) (v := undef) rfl (by kernel_rfl) (by kernel_rfl) (by kernel_rfl) (fun _ _ _ h => h) (Or.inr ⟨by rfl, rfl⟩) (by assumption) ?_
    try simp only [Act.put, List.setIfInBounds_toArray, List.set_cons_zero, List.set_cons_succ]
    refine regTake (i := 20) (v := .bool false) rfl (by kernel_rfl) (by kernel_rfl) (by kernel_rfl) (fun _ _ _ h => h) (Or.inl ⟨by rfl, ?hyn9_20⟩) (by assumption) ?_
    case hyn9_20 => (intro w hSw; (try dsimp only at hSw); go_simp; (try with_reducible rfl))
    try simp only [Act.put, List.setIfInBounds_toArray, List.set_cons_zero, List.set_cons_succ]
    refine regTake (i := 21) (v := ?vn9_21) rfl (by kernel_rfl) (by kernel_rfl) (by kernel_rfl) (fun _ _ _ h => h) (Or.inl ⟨by rfl, ?hyn9_21⟩) (by assumption) ?_
    case hyn9_21 => (intro w hSw; (try dsimp only at hSw); go_simp; (try with_reducible rfl))
    try simp only [Act.put, List.setIfInBounds_toArray, List.set_cons_zero, List.set_cons_succ]
    refine wpAnyH_done (by kernel_rfl) ?_ _
    go_wp2_with fail
    go_ret
    exact ⟨ret_b HT.out.symm, below_trans hb0 (below_drew _)⟩
  have q1 : (kt == 1) = true := by simpa using hk
  rw [q1, Bool.true_and] at HT
  clear hk
  generalize hg : tagC a = tg at *
  have HG := hid hg
  by_cases hk2 : kf = tg
  case neg =>
    have q2 : (kf == tg) = false := by simpa using hk2
    rw [q2, Bool.false_and] at HT
    clear hk2 hg
    go_enter Try.func51, Try.ntmps51
    go_wp2_with fail
    refine wp_region_held_drew (S := (fun w' => Below ((((w.alloc (Obj.cells #[.int .i64 4, .int .i64 0, .int .i64 0, .slice (some ⟨bc, oc, none⟩) 1 cc] 30)).alloc (Obj.cells #[.int .i64 kf, .slice af nf cf] 25)).alloc (Obj.cells #[.int .i64 kt, .slice at' nt ct] 25))).heap.size (((w.alloc (Obj.cells #[.int .i64 4, .int .i64 0, .int .i64 0, .slice (some ⟨bc, oc, none⟩) 1 cc] 30)).alloc (Obj.cells #[.int .i64 kf, .slice af nf cf] 25)).alloc (Obj.cells #[.int .i64 kt, .slice at' nt ct] 25)) w' ∧ w'.cell? ⟨w.heap.size, 0, none⟩ = some (.int .i64 4) ∧ w'.cell? ⟨w.heap.size, 1, none⟩ = some (.int .i64 0) ∧ w'.cell? ⟨w.heap.size, 2, none⟩ = some (.int .i64 0) ∧ w'.cell? ⟨w.heap.size, 3, none⟩ = some (.slice (some ⟨bc, oc, none⟩) 1 cc) ∧ w'.cell? ⟨w.heap.size + 1, 0, none⟩ = some (.int .i64 kf) ∧ w'.cell? ⟨w.heap.size + 1, 1, none⟩ = some (.slice af nf cf) ∧ w'.cell? ⟨w.heap.size + 1 + 1, 0, none⟩ = some (.int .i64 kt) ∧ w'.cell? ⟨w.heap.size + 1 + 1, 1, none⟩ = some (.slice at' nt ct) ∧ w'.cell? ⟨bc, oc, none⟩ = some (.int .i64 ka) ∧ w'.cell? ⟨bc, oc + 1, none⟩ = some (.int .i64 ga) ∧ w'.cell? ⟨bc, oc + 2, none⟩ = some (.int .i64 la) ∧ w'.cell? ⟨bc, oc + 3, none⟩ = some (.slice aa na ca))) (by kernel_rfl) ?_ (fun hS0 => ?_)
    · (refine (fun hB => ⟨hB, cell_keep xC0 hB, cell_keep xC1 hB, cell_keep xC2 hB, cell_keep xC3 hB, cell_keep xF0 hB, cell_keep xF1 hB, cell_keep xT0 hB, cell_keep xT1 hB, cell_keep d0 hB, cell_keep d1 hB, cell_keep d2 hB, cell_keep d3 hB⟩ : Below ((((w.alloc (Obj.cells #[.int .i64 4, .int .i64 0, .int .i64 0, .slice (some ⟨bc, oc, none⟩) 1 cc] 30)).alloc (Obj.cells #[.int .i64 kf, .slice af nf cf] 25)).alloc (Obj.cells #[.int .i64 kt, .slice at' nt ct] 25))).heap.size (((w.alloc (Obj.cells #[.int .i64 4, .int .i64 0, .int .i64 0, .slice (some ⟨bc, oc, none⟩) 1 cc] 30)).alloc (Obj.cells #[.int .i64 kf, .slice af nf cf] 25)).alloc (Obj.cells #[.int .i64 kt, .slice at' nt ct] 25)) _ → _) ?_; exact below_drew _)
    refine regTake (i := 0) (v := ?vn10_0) rfl (by kernel_rfl) (by kernel_rfl) (by kernel_rfl) (fun _ _ _ h => h) (Or.inl ⟨by rfl, ?hyn10_0⟩) (by assumption) ?_
    case hyn10_0 => (intro w hSw; (try dsimp only at hSw); go_simp; (try with_reducible rfl))
    try simp only [Act.put, List.setIfInBounds_toArray, List.set_cons_zero, List.set_cons_succ]
    refine regTake (i := 1) (v := ?vn10_1) rfl (by kernel_rfl) (by kernel_rfl) (by kernel_rfl) (fun _ _ _ h => h) (Or.inl ⟨by rfl, ?hyn10_1⟩) (by assumption) ?_
    case hyn10_1 => (intro w hSw; (try dsimp only at hSw); go_simp; (try with_reducible rfl))
    try simp only [Act.put, List.setIfInBounds_toArray, List.set_cons_zero, List.set_cons_succ]
    refine regTake (i := 2) (v := ?vn10_2) rfl (by kernel_rfl) (by kernel_rfl) (by kernel_rfl) (fun _ _ _ h => h) (Or.inl ⟨by rfl, ?hyn10_2⟩) (by assumption) ?_
    case hyn10_2 => (intro w hSw; (try dsimp only at hSw); go_simp; (try with_reducible rfl))
    try simp only [Act.put, List.setIfInBounds_toArray, List.set_cons_zero, List.set_cons_succ]
    refine regTake (i := 3) (v := ?vn10_3) rfl (by kernel_rfl) (by kernel_rfl) (by kernel_rfl) (fun _ _ _ h => h) (Or.inl ⟨by rfl, ?hyn10_3⟩) (by assumption) ?_
    case hyn10_3 => (intro w hSw; (try dsimp only at hSw); go_simp; (try with_reducible rfl))
    try simp only [Act.put, List.setIfInBounds_toArray, List.set_cons_zero, List.set_cons_succ]
    refine regTake (i := 4) (v := ?vn10_4) rfl (by kernel_rfl) (by kernel_rfl) (by kernel_rfl) (fun _ _ _ h => h) (Or.inl ⟨by rfl, ?hyn10_4⟩) (by assumption) ?_
    case hyn10_4 => (intro w hSw; (try dsimp only at hSw); go_simp; (try with_reducible rfl))
    try simp only [Act.put, List.setIfInBounds_toArray, List.set_cons_zero, List.set_cons_succ]
    refine regTake (i := 5) (v := ?vn10_5) rfl (by kernel_rfl) (by kernel_rfl) (by kernel_rfl) (fun _ _ _ h => h) (Or.inl ⟨by rfl, ?hyn10_5⟩) (by assumption) ?_
    case hyn10_5 => (intro w hSw; (try dsimp only at hSw); go_simp; (try with_reducible rfl))
    try simp only [Act.put, List.setIfInBounds_toArray, List.set_cons_zero, List.set_cons_succ]
    refine regTake (i := 6) (v := ?vn10_6) rfl (by kernel_rfl) (by kernel_rfl) (by kernel_rfl) (fun _ _ _ h => h) (Or.inl ⟨by rfl, ?hyn10_6⟩) (by assumption) ?_
    case hyn10_6 => (intro w hSw; (try dsimp only at hSw); go_simp; (try with_reducible rfl))
    try simp only [Act.put, List.setIfInBounds_toArray, List.set_cons_zero, List.set_cons_succ]
    refine wpAnyH_ready (rs := [7]) (by kernel_rfl) (by simp) ?_
    refine regCons rfl (fun K hK => ?_)
    go_simp
    refine (tagi_any (n + 1) _ _ _ _ HTW.out (H.out.2.2.2.below (below_drew _))).mono ?_
    rw [HTG.out]
    rintro e w1 ⟨rfl, hb1⟩
    have hk0 := below_trans (below_drew (((w.alloc (Obj.cells #[.int .i64 4, .int .i64 0, .int .i64 0, .slice (some ⟨bc, oc, none⟩) 1 cc] 30)).alloc (Obj.cells #[.int .i64 kf, .slice af nf cf] 25)).alloc (Obj.cells #[.int .i64 kt, .slice at' nt ct] 25))) hb1
    refine hK.out _ _ ?_ (fun hS1 => ?_)
    · (refine (fun hB => ⟨hB, cell_keep xC0 hB, cell_keep xC1 hB, cell_keep xC2 hB, cell_keep xC3 hB, cell_keep xF0 hB, cell_keep xF1 hB, cell_keep xT0 hB, cell_keep xT1 hB, cell_keep d0 hB, cell_keep d1 hB, cell_keep d2 hB, cell_keep d3 hB⟩ : Below ((((w.alloc (Obj.cells #[.int .i64 4, .int .i64 0, .int .i64 0, .slice (some ⟨bc, oc, none⟩) 1 cc] 30)).alloc (Obj.cells #[.int .i64 kf, .slice af nf cf] 25)).alloc (Obj.cells #[.int .i64 kt, .slice at' nt ct] 25))).heap.size (((w.alloc (Obj.cells #[.int .i64 4, .int .i64 0, .int .i64 0, .slice (some ⟨bc, oc, none⟩) 1 cc] 30)).alloc (Obj.cells #[.int .i64 kf, .slice af nf cf] 25)).alloc (Obj.cells #[.int .i64 kt, .slice at' nt ct] 25)) _ → _) ?_; exact hk0)
    clear hK K hS0
    try simp only [Act.put, List.setIfInBounds_toArray, List.set_cons_zero, List.set_cons_succ]
    refine regTake (i := 8) (v := ?vn10_8) rfl (by kernel_rfl) (by kernel_rfl) (by kernel_rfl) (fun _ _ _ h => h) (Or.inl ⟨by rfl, ?hyn10_8⟩) (by assumption) ?_
    case hyn10_8 => (intro w hSw; (try dsimp only at hSw); go_simp; (try with_reducible rfl))
    try simp only [Act.put, List.setIfInBounds_toArray, List.set_cons_zero, List.set_cons_succ]
    refine regTake (i := 9) (v := .bool false) rfl (by kernel_rfl) (by kernel_rfl) (by kernel_rfl) (fun _ _ _ h => h) (Or.inl ⟨by rfl, ?hyn10_9⟩) (by assumption) ?_
    case hyn10_9 => (intro w hSw; (try dsimp only at hSw); go_simp; (try with_reducible rfl))
    try simp only [Act.put, List.setIfInBounds_toArray, List.set_cons_zero, List.set_cons_succ]
    refine regTake (i := 10) (v := ?vn10_10) rfl (by kernel_rfl) (by kernel_rfl) (by kernel_rfl) (fun _ _ _ h => h) (Or.inl ⟨by rfl, ?hyn10_10⟩) (by assumption) ?_
    case hyn10_10 => (intro w hSw; (try dsimp only at hSw); go_simp; (try with_reducible rfl))
    try simp only [Act.put, List.setIfInBounds_toArray, List.set_cons_zero, List.set_cons_succ]
    refine regTake (i := 11) (v := undef) rfl (by kernel_rfl) (by kernel_rfl) (by kernel_rfl) (fun _ _ _ h => h) (Or.inr ⟨by rfl, rfl⟩) (by assumption) ?_
    try simp only [Act.put, List.setIfInBounds_toArray, List.set_cons_zero, List.set_cons_succ]
    refine regTake (i := 12) (v := undef) rfl (by kernel_rfl) (by kernel_rfl) (by kernel_rfl) (fun _ _ _ h => h) (Or.inr ⟨by rfl, rfl⟩) (by assumption) ?_
    try simp only [Act.put, List.setIfInBounds_toArray, List.set_cons_zero, List.set_cons_succ]
    refine regTake (i := 13) (v := undef) rfl (by kernel_rfl) (by kernel_rfl) (by kernel_rfl) (fun _ _ _ h => h) (Or.inr ⟨by rfl, rfl⟩) (by assumption) ?_
    try simp only [Act.put, List.setIfInBounds_toArray, List.set_cons_zero, List.set_cons_succ]
    refine regTake (i := 14) (v := undef) rfl (by kernel_rfl) (by kernel_rfl) (by kernel_rfl) (fun _ _ _ h => h) (Or.inr ⟨by rfl, rfl⟩) (by assumption) ?_
    try simp only [Act.put, List.setIfInBounds_toArray, List.set_cons_zero, List.set_cons_succ]
    refine regTake (i := 15) (v := undef) rfl (by kernel_rfl) (by kernel_rfl) (by kernel_rfl) (fun _ _ _ h => h) (Or.inr ⟨by rfl, rfl⟩) (by assumption) ?_
    try simp only [Act.put, List.setIfInBounds_toArray, List.set_cons_zero, List.set_cons_succ]
    refine regTake (i := 16) (v := undef) rfl (by kernel_rfl) (by kernel_rfl) (by kernel_rfl) (fun _ _ _ h => h) (Or.inr ⟨by rfl, rfl⟩) (by assumption) ?_
    try simp only [Act.put, List.setIfInBounds_toArray, List.set_cons_zero, List.set_cons_succ]
    refine regTake (i := 17) (v := undef) rfl (by kernel_rfl) (by kernel_rfl) (by kernel_rfl) (fun _ _ _ h => h) (Or.inr ⟨by rfl, rfl⟩) (by assumption) ?_
    try simp only [Act.put, List.setIfInBounds_toArray, List.set_cons_zero, List.set_cons_succ]
    refine regTake (i := 18) (v := undef) rfl (by kernel_rfl) (by kernel_rfl) (by kernel_rfl) (fun _ _ _ h => h) (Or.inr ⟨by rfl, rfl⟩) (by assumption) ?_
    try simp only [Act.put, List.setIfInBounds_toArray, List.set_cons_zero, List.set_cons_succ]
    refine regTake (i := 19) (v := undef) rfl (by kernel_rfl) (by kernel_rfl) (by kernel_rfl) (fun _ _ _ h => h) (Or.inr ⟨by rfl, rfl⟩) (by assumption) ?_
    try simp only [Act.put, List.setIfInBounds_toArray, List.set_cons_zero, List.set_cons_succ]
    refine regTake (i := 20) (v := .bool false) rfl (by kernel_rfl) (by kernel_rfl) (by kernel_rfl) (fun _ _ _ h => h) (Or.inl ⟨by rfl, ?hyn10_20⟩) (by assumption) ?_
    case hyn10_20 => (intro w hSw; (try dsimp only at hSw); go_simp; (try with_reducible rfl))
    try simp only [Act.put, List.setIfInBounds_toArray, List.set_cons_zero, List.set_cons_succ]
    refine regTake (i := 21) (v := ?vn10_21) rfl (by kernel_rfl) (by kernel_rfl) (by kernel_rfl) (fun _ _ _ h => h) (Or.inl ⟨by rfl, ?hyn10_21⟩) (by assumption) ?_
    case hyn10_21 => (intro w hSw; (try dsimp only at hSw); go_simp; (try with_reducible rfl))
    try simp only [Act.put, List.setIfInBounds_toArray, List.set_cons_zero, List.set_cons_succ]
    refine wpAnyH_done (by kernel_rfl) ?_ _
    go_wp2_with fail
    go_ret
    exact ⟨ret_b HT.out.symm, below_trans hb0 (hk0)⟩
  have q2 : (kf == tg) = true := by simpa using hk2
  rw [q2, Bool.true_and] at HT
  clear hk2 hg
  generalize hr : typC n a (.mk kf fs) (gk kf) = r at *
  have HV := hid hr
  clear hr
  go_enter Try.func51, Try.ntmps51
  go_wp2_with fail
  refine wp_region_held_drew (S := (fun w' => Below ((((w.alloc (Obj.cells #[.int .i64 4, .int .i64 0, .int .i64 0, .slice (some ⟨bc, oc, none⟩) 1 cc] 30)).alloc (Obj.cells #[.int .i64 kf, .slice af nf cf] 25)).alloc (Obj.cells #[.int .i64 kt, .slice at' nt ct] 25))).heap.size (((w.alloc (Obj.cells #[.int .i64 4, .int .i64 0, .int .i64 0, .slice (some ⟨bc, oc, none⟩) 1 cc] 30)).alloc (Obj.cells #[.int .i64 kf, .slice af nf cf] 25)).alloc (Obj.cells #[.int .i64 kt, .slice at' nt ct] 25)) w' ∧ w'.cell? ⟨w.heap.size, 0, none⟩ = some (.int .i64 4) ∧ w'.cell? ⟨w.heap.size, 1, none⟩ = some (.int .i64 0) ∧ w'.cell? ⟨w.heap.size, 2, none⟩ = some (.int .i64 0) ∧ w'.cell? ⟨w.heap.size, 3, none⟩ = some (.slice (some ⟨bc, oc, none⟩) 1 cc) ∧ w'.cell? ⟨w.heap.size + 1, 0, none⟩ = some (.int .i64 kf) ∧ w'.cell? ⟨w.heap.size + 1, 1, none⟩ = some (.slice af nf cf) ∧ w'.cell? ⟨w.heap.size + 1 + 1, 0, none⟩ = some (.int .i64 kt) ∧ w'.cell? ⟨w.heap.size + 1 + 1, 1, none⟩ = some (.slice at' nt ct) ∧ w'.cell? ⟨bc, oc, none⟩ = some (.int .i64 ka) ∧ w'.cell? ⟨bc, oc + 1, none⟩ = some (.int .i64 ga) ∧ w'.cell? ⟨bc, oc + 2, none⟩ = some (.int .i64 la) ∧ w'.cell? ⟨bc, oc + 3, none⟩ = some (.slice aa na ca))) (by kernel_rfl) ?_ (fun hS0 => ?_)
  · (refine (fun hB => ⟨hB, cell_keep xC0 hB, cell_keep xC1 hB, cell_keep xC2 hB, cell_keep xC3 hB, cell_keep xF0 hB, cell_keep xF1 hB, cell_keep xT0 hB, cell_keep xT1 hB, cell_keep d0 hB, cell_keep d1 hB, cell_keep d2 hB, cell_keep d3 hB⟩ : Below ((((w.alloc (Obj.cells #[.int .i64 4, .int .i64 0, .int .i64 0, .slice (some ⟨bc, oc, none⟩) 1 cc] 30)).alloc (Obj.cells #[.int .i64 kf, .slice af nf cf] 25)).alloc (Obj.cells #[.int .i64 kt, .slice at' nt ct] 25))).heap.size (((w.alloc (Obj.cells #[.int .i64 4, .int .i64 0, .int .i64 0, .slice (some ⟨bc, oc, none⟩) 1 cc] 30)).alloc (Obj.cells #[.int .i64 kf, .slice af nf cf] 25)).alloc (Obj.cells #[.int .i64 kt, .slice at' nt ct] 25)) _ → _) ?_; exact below_drew _)
  refine regTake (i := 0) (v := ?vn11_0) rfl (by kernel_rfl) (by kernel_rfl) (by kernel_rfl) (fun _ _ _ h => h) (Or.inl ⟨by rfl, ?hyn11_0⟩) (by assumption) ?_
  case hyn11_0 => (intro w hSw; (try dsimp only at hSw); go_simp; (try with_reducible rfl))
  try simp only [Act.put, List.setIfInBounds_toArray, List.set_cons_zero, List.set_cons_succ]
  refine regTake (i := 1) (v := ?vn11_1) rfl (by kernel_rfl) (by kernel_rfl) (by kernel_rfl) (fun _ _ _ h => h) (Or.inl ⟨by rfl, ?hyn11_1⟩) (by assumption) ?_
  case hyn11_1 => (intro w hSw; (try dsimp only at hSw); go_simp; (try with_reducible rfl))
  try simp only [Act.put, List.setIfInBounds_toArray, List.set_cons_zero, List.set_cons_succ]
  refine regTake (i := 2) (v := ?vn11_2) rfl (by kernel_rfl) (by kernel_rfl) (by kernel_rfl) (fun _ _ _ h => h) (Or.inl ⟨by rfl, ?hyn11_2⟩) (by assumption) ?_
  case hyn11_2 => (intro w hSw; (try dsimp only at hSw); go_simp; (try with_reducible rfl))
  try simp only [Act.put, List.setIfInBounds_toArray, List.set_cons_zero, List.set_cons_succ]
  refine regTake (i := 3) (v := ?vn11_3) rfl (by kernel_rfl) (by kernel_rfl) (by kernel_rfl) (fun _ _ _ h => h) (Or.inl ⟨by rfl, ?hyn11_3⟩) (by assumption) ?_
  case hyn11_3 => (intro w hSw; (try dsimp only at hSw); go_simp; (try with_reducible rfl))
  try simp only [Act.put, List.setIfInBounds_toArray, List.set_cons_zero, List.set_cons_succ]
  refine regTake (i := 4) (v := ?vn11_4) rfl (by kernel_rfl) (by kernel_rfl) (by kernel_rfl) (fun _ _ _ h => h) (Or.inl ⟨by rfl, ?hyn11_4⟩) (by assumption) ?_
  case hyn11_4 => (intro w hSw; (try dsimp only at hSw); go_simp; (try with_reducible rfl))
  try simp only [Act.put, List.setIfInBounds_toArray, List.set_cons_zero, List.set_cons_succ]
  refine regTake (i := 5) (v := ?vn11_5) rfl (by kernel_rfl) (by kernel_rfl) (by kernel_rfl) (fun _ _ _ h => h) (Or.inl ⟨by rfl, ?hyn11_5⟩) (by assumption) ?_
  case hyn11_5 => (intro w hSw; (try dsimp only at hSw); go_simp; (try with_reducible rfl))
  try simp only [Act.put, List.setIfInBounds_toArray, List.set_cons_zero, List.set_cons_succ]
  refine regTake (i := 6) (v := ?vn11_6) rfl (by kernel_rfl) (by kernel_rfl) (by kernel_rfl) (fun _ _ _ h => h) (Or.inl ⟨by rfl, ?hyn11_6⟩) (by assumption) ?_
  case hyn11_6 => (intro w hSw; (try dsimp only at hSw); go_simp; (try with_reducible rfl))
  try simp only [Act.put, List.setIfInBounds_toArray, List.set_cons_zero, List.set_cons_succ]
  refine wpAnyH_ready (rs := [7]) (by kernel_rfl) (by simp) ?_
  refine regCons rfl (fun K hK => ?_)
  go_simp
  refine (tagi_any (n + 1) _ _ _ _ HTW.out (H.out.2.2.2.below (below_drew _))).mono ?_
  rw [HTG.out]
  rintro e w1 ⟨rfl, hb1⟩
  have hk0 := below_trans (below_drew (((w.alloc (Obj.cells #[.int .i64 4, .int .i64 0, .int .i64 0, .slice (some ⟨bc, oc, none⟩) 1 cc] 30)).alloc (Obj.cells #[.int .i64 kf, .slice af nf cf] 25)).alloc (Obj.cells #[.int .i64 kt, .slice at' nt ct] 25))) hb1
  refine hK.out _ _ ?_ (fun hS1 => ?_)
  · (refine (fun hB => ⟨hB, cell_keep xC0 hB, cell_keep xC1 hB, cell_keep xC2 hB, cell_keep xC3 hB, cell_keep xF0 hB, cell_keep xF1 hB, cell_keep xT0 hB, cell_keep xT1 hB, cell_keep d0 hB, cell_keep d1 hB, cell_keep d2 hB, cell_keep d3 hB⟩ : Below ((((w.alloc (Obj.cells #[.int .i64 4, .int .i64 0, .int .i64 0, .slice (some ⟨bc, oc, none⟩) 1 cc] 30)).alloc (Obj.cells #[.int .i64 kf, .slice af nf cf] 25)).alloc (Obj.cells #[.int .i64 kt, .slice at' nt ct] 25))).heap.size (((w.alloc (Obj.cells #[.int .i64 4, .int .i64 0, .int .i64 0, .slice (some ⟨bc, oc, none⟩) 1 cc] 30)).alloc (Obj.cells #[.int .i64 kf, .slice af nf cf] 25)).alloc (Obj.cells #[.int .i64 kt, .slice at' nt ct] 25)) _ → _) ?_; exact hk0)
  clear hK K hS0
  try simp only [Act.put, List.setIfInBounds_toArray, List.set_cons_zero, List.set_cons_succ]
  refine regTake (i := 8) (v := ?vn11_8) rfl (by kernel_rfl) (by kernel_rfl) (by kernel_rfl) (fun _ _ _ h => h) (Or.inl ⟨by rfl, ?hyn11_8⟩) (by assumption) ?_
  case hyn11_8 => (intro w hSw; (try dsimp only at hSw); go_simp; (try with_reducible rfl))
  try simp only [Act.put, List.setIfInBounds_toArray, List.set_cons_zero, List.set_cons_succ]
  refine regTake (i := 9) (v := .bool true) rfl (by kernel_rfl) (by kernel_rfl) (by kernel_rfl) (fun _ _ _ h => h) (Or.inl ⟨by rfl, ?hyn11_9⟩) (by assumption) ?_
  case hyn11_9 => (intro w hSw; (try dsimp only at hSw); go_simp; (try with_reducible rfl))
  try simp only [Act.put, List.setIfInBounds_toArray, List.set_cons_zero, List.set_cons_succ]
  refine regTake (i := 10) (v := ?vn11_10) rfl (by kernel_rfl) (by kernel_rfl) (by kernel_rfl) (fun _ _ _ h => h) (Or.inl ⟨by rfl, ?hyn11_10⟩) (by assumption) ?_
  case hyn11_10 => (intro w hSw; (try dsimp only at hSw); go_simp; (try with_reducible rfl))
  try simp only [Act.put, List.setIfInBounds_toArray, List.set_cons_zero, List.set_cons_succ]
  refine regTake (i := 11) (v := ?vn11_11) rfl (by kernel_rfl) (by kernel_rfl) (by kernel_rfl) (fun _ _ _ h => h) (Or.inl ⟨by rfl, ?hyn11_11⟩) (by assumption) ?_
  case hyn11_11 => (intro w hSw; (try dsimp only at hSw); go_simp; (try with_reducible rfl))
  try simp only [Act.put, List.setIfInBounds_toArray, List.set_cons_zero, List.set_cons_succ]
  refine regTake (i := 12) (v := ?vn11_12) rfl (by kernel_rfl) (by kernel_rfl) (by kernel_rfl) (fun _ _ _ h => h) (Or.inl ⟨by rfl, ?hyn11_12⟩) (by assumption) ?_
  case hyn11_12 => (intro w hSw; (try dsimp only at hSw); go_simp; (try with_reducible rfl))
  try simp only [Act.put, List.setIfInBounds_toArray, List.set_cons_zero, List.set_cons_succ]
  refine regTake (i := 13) (v := ?vn11_13) rfl (by kernel_rfl) (by kernel_rfl) (by kernel_rfl) (fun _ _ _ h => h) (Or.inl ⟨by rfl, ?hyn11_13⟩) (by assumption) ?_
  case hyn11_13 => (intro w hSw; (try dsimp only at hSw); go_simp; (try with_reducible rfl))
  try simp only [Act.put, List.setIfInBounds_toArray, List.set_cons_zero, List.set_cons_succ]
  refine regTake (i := 14) (v := ?vn11_14) rfl (by kernel_rfl) (by kernel_rfl) (by kernel_rfl) (fun _ _ _ h => h) (Or.inl ⟨by rfl, ?hyn11_14⟩) (by assumption) ?_
  case hyn11_14 => (intro w hSw; (try dsimp only at hSw); go_simp; (try with_reducible rfl))
  try simp only [Act.put, List.setIfInBounds_toArray, List.set_cons_zero, List.set_cons_succ]
  refine regTake (i := 15) (v := ?vn11_15) rfl (by kernel_rfl) (by kernel_rfl) (by kernel_rfl) (fun _ _ _ h => h) (Or.inl ⟨by rfl, ?hyn11_15⟩) (by assumption) ?_
  case hyn11_15 => (intro w hSw; (try dsimp only at hSw); go_simp; (try with_reducible rfl))
  try simp only [Act.put, List.setIfInBounds_toArray, List.set_cons_zero, List.set_cons_succ]
  refine regTake (i := 16) (v := ?vn11_16) rfl (by kernel_rfl) (by kernel_rfl) (by kernel_rfl) (fun _ _ _ h => h) (Or.inl ⟨by rfl, ?hyn11_16⟩) (by assumption) ?_
  case hyn11_16 => (intro w hSw; (try dsimp only at hSw); go_simp; (try with_reducible rfl))
  try simp only [Act.put, List.setIfInBounds_toArray, List.set_cons_zero, List.set_cons_succ]
  refine regTake (i := 17) (v := ?vn11_17) rfl (by kernel_rfl) (by kernel_rfl) (by kernel_rfl) (fun _ _ _ h => h) (Or.inl ⟨by rfl, ?hyn11_17⟩) (by assumption) ?_
  case hyn11_17 => (intro w hSw; (try dsimp only at hSw); go_simp; (try with_reducible rfl))
  try simp only [Act.put, List.setIfInBounds_toArray, List.set_cons_zero, List.set_cons_succ]
  refine wpAnyH_ready (rs := [18]) (by kernel_rfl) (by simp) ?_
  refine regCons rfl (fun K hK => ?_)
  go_simp
  refine (groundOfKind_any kf (by have := HKB.out; rw [HKK.out] at this; exact this) _).mono ?_
  rintro e w2 ⟨v2, g2, rfl, hat2, hf2, hb2⟩
  obtain ⟨kg, ng, ag, cg, rfl⟩ := hat2.agg
  have hk1 := below_trans hk0 hb2
  refine hK.out _ _ ?_ (fun hS2 => ?_)
  · (refine (fun hB => ⟨hB, cell_keep xC0 hB, cell_keep xC1 hB, cell_keep xC2 hB, cell_keep xC3 hB, cell_keep xF0 hB, cell_keep xF1 hB, cell_keep xT0 hB, cell_keep xT1 hB, cell_keep d0 hB, cell_keep d1 hB, cell_keep d2 hB, cell_keep d3 hB⟩ : Below ((((w.alloc (Obj.cells #[.int .i64 4, .int .i64 0, .int .i64 0, .slice (some ⟨bc, oc, none⟩) 1 cc] 30)).alloc (Obj.cells #[.int .i64 kf, .slice af nf cf] 25)).alloc (Obj.cells #[.int .i64 kt, .slice at' nt ct] 25))).heap.size (((w.alloc (Obj.cells #[.int .i64 4, .int .i64 0, .int .i64 0, .slice (some ⟨bc, oc, none⟩) 1 cc] 30)).alloc (Obj.cells #[.int .i64 kf, .slice af nf cf] 25)).alloc (Obj.cells #[.int .i64 kt, .slice at' nt ct] 25)) _ → _) ?_; exact hk1)
  clear hK K hS1
  try simp only [Act.put, List.setIfInBounds_toArray, List.set_cons_zero, List.set_cons_succ]
  refine wpAnyH_ready (rs := [19]) (by kernel_rfl) (by simp) ?_
  refine regCons rfl (fun K hK => ?_)
  go_simp
  refine (HIH.out a (.mk kf fs) (gk kf) _ _ _ _ _ _ _ HP.out.1 HP.out.2.1 HP.out.2.2.1 (H.out.1.below hk1) (H.out.2.1.below hk1) hat2).mono ?_
  rw [HV.out]
  rintro e w3 ⟨rfl, hb3⟩
  have hk2 := below_trans hk1 hb3
  refine hK.out _ _ ?_ (fun hS3 => ?_)
  · (refine (fun hB => ⟨hB, cell_keep xC0 hB, cell_keep xC1 hB, cell_keep xC2 hB, cell_keep xC3 hB, cell_keep xF0 hB, cell_keep xF1 hB, cell_keep xT0 hB, cell_keep xT1 hB, cell_keep d0 hB, cell_keep d1 hB, cell_keep d2 hB, cell_keep d3 hB⟩ : Below ((((w.alloc (Obj.cells #[.int .i64 4, .int .i64 0, .int .i64 0, .slice (some ⟨bc, oc, none⟩) 1 cc] 30)).alloc (Obj.cells #[.int .i64 kf, .slice af nf cf] 25)).alloc (Obj.cells #[.int .i64 kt, .slice at' nt ct] 25))).heap.size (((w.alloc (Obj.cells #[.int .i64 4, .int .i64 0, .int .i64 0, .slice (some ⟨bc, oc, none⟩) 1 cc] 30)).alloc (Obj.cells #[.int .i64 kf, .slice af nf cf] 25)).alloc (Obj.cells #[.int .i64 kt, .slice at' nt ct] 25)) _ → _) ?_; exact hk2)
  clear hK K hS2
  try simp only [Act.put, List.setIfInBounds_toArray, List.set_cons_zero, List.set_cons_succ]
  refine regTake (i := 20) (v := .bool r) rfl (by kernel_rfl) (by kernel_rfl) (by kernel_rfl) (fun _ _ _ h => h) (Or.inl ⟨by rfl, ?hyn11_20⟩) (by assumption) ?_
  case hyn11_20 => (intro w hSw; (try dsimp only at hSw); go_simp; (try with_reducible rfl))
  try simp only [Act.put, List.setIfInBounds_toArray, List.set_cons_zero, List.set_cons_succ]
  refine regTake (i := 21) (v := ?vn11_21) rfl (by kernel_rfl) (by kernel_rfl) (by kernel_rfl) (fun _ _ _ h => h) (Or.inl ⟨by rfl, ?hyn11_21⟩) (by assumption) ?_
  case hyn11_21 => (intro w hSw; (try dsimp only at hSw); go_simp; (try with_reducible rfl))
  try simp only [Act.put, List.setIfInBounds_toArray, List.set_cons_zero, List.set_cons_succ]
  refine wpAnyH_done (by kernel_rfl) ?_ _
  go_wp2_with fail
  go_ret
  exact ⟨ret_b HT.out.symm, below_trans hb0 (hk2)⟩

set_option maxRecDepth 100000 in
set_option maxHeartbeats 4000000 in
theorem leads_prj (n : Nat) (ih : LdC n) (a : Co) (l : Int) (f t : Ty) (vc vf vt : Value) (fc ff ft : List Nat) (w : World) (hsa : shpK n a = true) (hun : unkC a = false) (hf4 : shp 4 f = true) (ht4 : shp 4 t = true) (hatc : (Co.mk 5 0 l [a]).At w vc fc) (hatf : f.At w vf ff) (hatt : t.At w vt ft) :
    Calls Try.prog 51 #[vc, vf, vt] w fun e w' => e = .returned (.bool (typC (n + 1) (.mk 5 0 l [a]) f t)) ∧ Below w.heap.size w w' := by
  obtain ⟨sc, rfl, hsc⟩ := Co.at_mk.1 hatc
  have hatc0 := hatc
  obtain ⟨bc, oc, cc, ka, ga, la, na, aa, ca, fa, rfl, hbc, d0, d1, d2, d3, hA, _, hcc⟩ := hsc.one
  obtain ⟨kf, fs, rfl⟩ := f.shape
  obtain ⟨kt, ts, rfl⟩ := t.shape
  have hatf0 := hatf
  have hatt0 := hatt
  obtain ⟨sf, rfl, hsf⟩ := Ty.at_mk.1 hatf
  obtain ⟨st, rfl, hst⟩ := Ty.at_mk.1 hatt
  obtain ⟨af, cf, rfl⟩ := hsf.shape
  obtain ⟨at', ct, rfl⟩ := hst.shape
  have HT := hid (show typC (n + 1) (.mk 5 0 l [a]) (.mk kf fs) (.mk kt ts) = (kf == 1 && typC n a (gk (tagC a)) (.mk kt ts)) by simp [typC, kindT])
  generalize hnf : fs.length = nf at *
  generalize hnt : ts.length = nt at *
  have hb0 : Below w.heap.size w (((w.alloc (Obj.cells #[.int .i64 5, .int .i64 0, .int .i64 l, .slice (some ⟨bc, oc, none⟩) 1 cc] 30)).alloc (Obj.cells #[.int .i64 kf, .slice af nf cf] 25)).alloc (Obj.cells #[.int .i64 kt, .slice at' nt ct] 25)) := (((Below.refl _ _).alloc (Nat.le_refl _) _).alloc (by simp) _).alloc (by simp; omega) _
  obtain ⟨bC, bF, bT⟩ := three3 (Below.refl ((((w.alloc (Obj.cells #[.int .i64 5, .int .i64 0, .int .i64 l, .slice (some ⟨bc, oc, none⟩) 1 cc] 30)).alloc (Obj.cells #[.int .i64 kf, .slice af nf cf] 25)).alloc (Obj.cells #[.int .i64 kt, .slice at' nt ct] 25))).heap.size (((w.alloc (Obj.cells #[.int .i64 5, .int .i64 0, .int .i64 l, .slice (some ⟨bc, oc, none⟩) 1 cc] 30)).alloc (Obj.cells #[.int .i64 kf, .slice af nf cf] 25)).alloc (Obj.cells #[.int .i64 kt, .slice at' nt ct] 25)))
  have xC0 : ((((w.alloc (Obj.cells #[.int .i64 5, .int .i64 0, .int .i64 l, .slice (some ⟨bc, oc, none⟩) 1 cc] 30)).alloc (Obj.cells #[.int .i64 kf, .slice af nf cf] 25)).alloc (Obj.cells #[.int .i64 kt, .slice at' nt ct] 25))).cell? ⟨w.heap.size, 0, none⟩ = some (.int .i64 5) := by rw [cell_of_block bC]; rfl
  have xC1 : ((((w.alloc (Obj.cells #[.int .i64 5, .int .i64 0, .int .i64 l, .slice (some ⟨bc, oc, none⟩) 1 cc] 30)).alloc (Obj.cells #[.int .i64 kf, .slice af nf cf] 25)).alloc (Obj.cells #[.int .i64 kt, .slice at' nt ct] 25))).cell? ⟨w.heap.size, 1, none⟩ = some (.int .i64 0) := by rw [cell_of_block bC]; rfl
  have xC2 : ((((w.alloc (Obj.cells #[.int .i64 5, .int .i64 0, .int .i64 l, .slice (some ⟨bc, oc, none⟩) 1 cc] 30)).alloc (Obj.cells #[.int .i64 kf, .slice af nf cf] 25)).alloc (Obj.cells #[.int .i64 kt, .slice at' nt ct] 25))).cell? ⟨w.heap.size, 2, none⟩ = some (.int .i64 l) := by rw [cell_of_block bC]; rfl
  have xC3 : ((((w.alloc (Obj.cells #[.int .i64 5, .int .i64 0, .int .i64 l, .slice (some ⟨bc, oc, none⟩) 1 cc] 30)).alloc (Obj.cells #[.int .i64 kf, .slice af nf cf] 25)).alloc (Obj.cells #[.int .i64 kt, .slice at' nt ct] 25))).cell? ⟨w.heap.size, 3, none⟩ = some (.slice (some ⟨bc, oc, none⟩) 1 cc) := by rw [cell_of_block bC]; rfl
  have xF0 : ((((w.alloc (Obj.cells #[.int .i64 5, .int .i64 0, .int .i64 l, .slice (some ⟨bc, oc, none⟩) 1 cc] 30)).alloc (Obj.cells #[.int .i64 kf, .slice af nf cf] 25)).alloc (Obj.cells #[.int .i64 kt, .slice at' nt ct] 25))).cell? ⟨w.heap.size + 1, 0, none⟩ = some (.int .i64 kf) := by rw [cell_of_block bF]; rfl
  have xF1 : ((((w.alloc (Obj.cells #[.int .i64 5, .int .i64 0, .int .i64 l, .slice (some ⟨bc, oc, none⟩) 1 cc] 30)).alloc (Obj.cells #[.int .i64 kf, .slice af nf cf] 25)).alloc (Obj.cells #[.int .i64 kt, .slice at' nt ct] 25))).cell? ⟨w.heap.size + 1, 1, none⟩ = some (.slice af nf cf) := by rw [cell_of_block bF]; rfl
  have xT0 : ((((w.alloc (Obj.cells #[.int .i64 5, .int .i64 0, .int .i64 l, .slice (some ⟨bc, oc, none⟩) 1 cc] 30)).alloc (Obj.cells #[.int .i64 kf, .slice af nf cf] 25)).alloc (Obj.cells #[.int .i64 kt, .slice at' nt ct] 25))).cell? ⟨w.heap.size + 1 + 1, 0, none⟩ = some (.int .i64 kt) := by rw [cell_of_block bT]; rfl
  have xT1 : ((((w.alloc (Obj.cells #[.int .i64 5, .int .i64 0, .int .i64 l, .slice (some ⟨bc, oc, none⟩) 1 cc] 30)).alloc (Obj.cells #[.int .i64 kf, .slice af nf cf] 25)).alloc (Obj.cells #[.int .i64 kt, .slice at' nt ct] 25))).cell? ⟨w.heap.size + 1 + 1, 1, none⟩ = some (.slice at' nt ct) := by rw [cell_of_block bT]; rfl
  clear bC bF bT
  replace d0 := cell_keep d0 hb0
  replace d1 := cell_keep d1 hb0
  replace d2 := cell_keep d2 hb0
  replace d3 := cell_keep d3 hb0
  have HTW := hid (tagWf_shp hsa)
  have htr := shpK_tag hsa hun
  have HTR := hid (show 1 ≤ tagC a ∧ tagC a ≤ 5 by omega)
  have H := hid (And.intro (hA.below hb0) (hatt0.below hb0))
  have HIH := hid ih
  have HP := hid (And.intro hsa (And.intro (shp_gk4 (k := tagC a) (by omega)) ht4))
  clear ih hatc hatf hatt hatc0 hatf0 hatt0 hsc hsf hst hA hsa hf4 ht4 hnf hnt hun htr
  by_cases hk : kf = 1
  case neg =>
    have q1 : (kf == 1) = false := by simpa using hk
    rw [q1, Bool.false_and] at HT
    clear hk
    go_enter Try.func51, Try.ntmps51
    go_wp2_with fail
    refine wp_region_held_drew (S := (fun w' => Below ((((w.alloc (Obj.cells #[.int .i64 5, .int .i64 0, .int .i64 l, .slice (some ⟨bc, oc, none⟩) 1 cc] 30)).alloc (Obj.cells #[.int .i64 kf, .slice af nf cf] 25)).alloc (Obj.cells #[.int .i64 kt, .slice at' nt ct] 25))).heap.size (((w.alloc (Obj.cells #[.int .i64 5, .int .i64 0, .int .i64 l, .slice (some ⟨bc, oc, none⟩) 1 cc] 30)).alloc (Obj.cells #[.int .i64 kf, .slice af nf cf] 25)).alloc (Obj.cells #[.int .i64 kt, .slice at' nt ct] 25)) w' ∧ w'.cell? ⟨w.heap.size, 0, none⟩ = some (.int .i64 5) ∧ w'.cell? ⟨w.heap.size, 1, none⟩ = some (.int .i64 0) ∧ w'.cell? ⟨w.heap.size, 2, none⟩ = some (.int .i64 l) ∧ w'.cell? ⟨w.heap.size, 3, none⟩ = some (.slice (some ⟨bc, oc, none⟩) 1 cc) ∧ w'.cell? ⟨w.heap.size + 1, 0, none⟩ = some (.int .i64 kf) ∧ w'.cell? ⟨w.heap.size + 1, 1, none⟩ = some (.slice af nf cf) ∧ w'.cell? ⟨w.heap.size + 1 + 1, 0, none⟩ = some (.int .i64 kt) ∧ w'.cell? ⟨w.heap.size + 1 + 1, 1, none⟩ = some (.slice at' nt ct) ∧ w'.cell? ⟨bc, oc, none⟩ = some (.int .i64 ka) ∧ w'.cell? ⟨bc, oc + 1, none⟩ = some (.int .i64 ga) ∧ w'.cell? ⟨bc, oc + 2, none⟩ = some (.int .i64 la) ∧ w'.cell? ⟨bc, oc + 3, none⟩ = some (.slice aa na ca))) (by kernel_rfl) ?_ (fun hS0 => ?_)
    · (refine (fun hB => ⟨hB, cell_keep xC0 hB, cell_keep xC1 hB, cell_keep xC2 hB, cell_keep xC3 hB, cell_keep xF0 hB, cell_keep xF1 hB, cell_keep xT0 hB, cell_keep xT1 hB, cell_keep d0 hB, cell_keep d1 hB, cell_keep d2 hB, cell_keep d3 hB⟩ : Below ((((w.alloc (Obj.cells #[.int .i64 5, .int .i64 0, .int .i64 l, .slice (some ⟨bc, oc, none⟩) 1 cc] 30)).alloc (Obj.cells #[.int .i64 kf, .slice af nf cf] 25)).alloc (Obj.cells #[.int .i64 kt, .slice at' nt ct] 25))).heap.size (((w.alloc (Obj.cells #[.int .i64 5, .int .i64 0, .int .i64 l, .slice (some ⟨bc, oc, none⟩) 1 cc] 30)).alloc (Obj.cells #[.int .i64 kf, .slice af nf cf] 25)).alloc (Obj.cells #[.int .i64 kt, .slice at' nt ct] 25)) _ → _) ?_; exact below_drew _)
    refine regTake (i := 0) (v := ?vn12_0) rfl (by kernel_rfl) (by kernel_rfl) (by kernel_rfl) (fun _ _ _ h => h) (Or.inl ⟨by rfl, ?hyn12_0⟩) (by assumption) ?_
    case hyn12_0 => (intro w hSw; (try dsimp only at hSw); go_simp; (try with_reducible rfl))
    try simp only [Act.put, List.setIfInBounds_toArray, List.set_cons_zero, List.set_cons_succ]
    refine regTake (i := 1) (v := ?vn12_1) rfl (by kernel_rfl) (by kernel_rfl) (by kernel_rfl) (fun _ _ _ h => h) (Or.inl ⟨by rfl, ?hyn12_1⟩) (by assumption) ?_
    case hyn12_1 => (intro w hSw; (try dsimp only at hSw); go_simp; (try with_reducible rfl))
    try simp only [Act.put, List.setIfInBounds_toArray, List.set_cons_zero, List.set_cons_succ]
    refine regTake (i := 2) (v := ?vn12_2) rfl (by kernel_rfl) (by kernel_rfl) (by kernel_rfl) (fun _ _ _ h => h) (Or.inl ⟨by rfl, ?hyn12_2⟩) (by assumption) ?_
    case hyn12_2 => (intro w hSw; (try dsimp only at hSw); go_simp; (try with_reducible rfl))
    try simp only [Act.put, List.setIfInBounds_toArray, List.set_cons_zero, List.set_cons_succ]
    refine regTake (i := 3) (v := ?vn12_3) rfl (by kernel_rfl) (by kernel_rfl) (by kernel_rfl) (fun _ _ _ h => h) (Or.inl ⟨by rfl, ?hyn12_3⟩) (by assumption) ?_
    case hyn12_3 => (intro w hSw; (try dsimp only at hSw); go_simp; (try with_reducible rfl))
    try simp only [Act.put, List.setIfInBounds_toArray, List.set_cons_zero, List.set_cons_succ]
    refine regTake (i := 4) (v := undef) rfl (by kernel_rfl) (by kernel_rfl) (by kernel_rfl) (fun _ _ _ h => h) (Or.inr ⟨by rfl, rfl⟩) (by assumption) ?_
    try simp only [Act.put, List.setIfInBounds_toArray, List.set_cons_zero, List.set_cons_succ]
    refine regTake (i := 5) (v := undef) rfl (by kernel_rfl) (by kernel_rfl) (by kernel_rfl) (fun _ _ _ h => h) (Or.inr ⟨by rfl, rfl⟩) (by assumption) ?_
    try simp only [Act.put, List.setIfInBounds_toArray, List.set_cons_zero, List.set_cons_succ]
    refine regTake (i := 6) (v := undef) rfl (by kernel_rfl) (by kernel_rfl) (by kernel_rfl) (fun _ _ _ h => h) (Or.inr ⟨by rfl, rfl⟩) (by assumption) ?_
    try simp only [Act.put, List.setIfInBounds_toArray, List.set_cons_zero, List.set_cons_succ]
    refine regTake (i := 7) (v := undef) rfl (by kernel_rfl) (by kernel_rfl) (by kernel_rfl) (fun _ _ _ h => h) (Or.inr ⟨by rfl, rfl⟩) (by assumption) ?_
    try simp only [Act.put, List.setIfInBounds_toArray, List.set_cons_zero, List.set_cons_succ]
    refine regTake (i := 8) (v := undef) rfl (by kernel_rfl) (by kernel_rfl) (by kernel_rfl) (fun _ _ _ h => h) (Or.inr ⟨by rfl, rfl⟩) (by assumption) ?_
    try simp only [Act.put, List.setIfInBounds_toArray, List.set_cons_zero, List.set_cons_succ]
    refine regTake (i := 9) (v := undef) rfl (by kernel_rfl) (by kernel_rfl) (by kernel_rfl) (fun _ _ _ h => h) (Or.inr ⟨by rfl, rfl⟩) (by assumption) ?_
    try simp only [Act.put, List.setIfInBounds_toArray, List.set_cons_zero, List.set_cons_succ]
    refine regTake (i := 10) (v := undef) rfl (by kernel_rfl) (by kernel_rfl) (by kernel_rfl) (fun _ _ _ h => h) (Or.inr ⟨by rfl, rfl⟩) (by assumption) ?_
    try simp only [Act.put, List.setIfInBounds_toArray, List.set_cons_zero, List.set_cons_succ]
    refine regTake (i := 11) (v := undef) rfl (by kernel_rfl) (by kernel_rfl) (by kernel_rfl) (fun _ _ _ h => h) (Or.inr ⟨by rfl, rfl⟩) (by assumption) ?_
    try simp only [Act.put, List.setIfInBounds_toArray, List.set_cons_zero, List.set_cons_succ]
    refine regTake (i := 12) (v := undef) rfl (by kernel_rfl) (by kernel_rfl) (by kernel_rfl) (fun _ _ _ h => h) (Or.inr ⟨by rfl, rfl⟩) (by assumption) ?_
    try simp only [Act.put, List.setIfInBounds_toArray, List.set_cons_zero, List.set_cons_succ]
    refine regTake (i := 13) (v := undef) rfl (by kernel_rfl) (by kernel_rfl) (by kernel_rfl) (fun _ _ _ h => h) (Or.inr ⟨by rfl, rfl⟩) (by assumption) ?_
    try simp only [Act.put, List.setIfInBounds_toArray, List.set_cons_zero, List.set_cons_succ]
    refine regTake (i := 14) (v := undef) rfl (by kernel_rfl) (by kernel_rfl) (by kernel_rfl) (fun _ _ _ h => h) (Or.inr ⟨by rfl, rfl⟩) (by assumption) ?_
    try simp only [Act.put, List.setIfInBounds_toArray, List.set_cons_zero, List.set_cons_succ]
    refine regTake (i := 15) (v := undef) rfl (by kernel_rfl) (by kernel_rfl) (by kernel_rfl) (fun _ _ _ h => h) (Or.inr ⟨by rfl, rfl⟩) (by assumption) ?_
    try simp only [Act.put, List.setIfInBounds_toArray, List.set_cons_zero, List.set_cons_succ]
    refine regTake (i := 16) (v := .bool false) rfl (by kernel_rfl) (by kernel_rfl) (by kernel_rfl) (fun _ _ _ h => h) (Or.inl ⟨by rfl, ?hyn12_16⟩) (by assumption) ?_
    case hyn12_16 => (intro w hSw; (try dsimp only at hSw); go_simp; (try with_reducible rfl))
    try simp only [Act.put, List.setIfInBounds_toArray, List.set_cons_zero, List.set_cons_succ]
    refine regTake (i := 17) (v := ?vn12_17) rfl (by kernel_rfl) (by kernel_rfl) (by kernel_rfl) (fun _ _ _ h => h) (Or.inl ⟨by rfl, ?hyn12_17⟩) (by assumption) ?_
    case hyn12_17 => (intro w hSw; (try dsimp only at hSw); go_simp; (try with_reducible rfl))
    try simp only [Act.put, List.setIfInBounds_toArray, List.set_cons_zero, List.set_cons_succ]
    refine wpAnyH_done (by kernel_rfl) ?_ _
    go_wp2_with fail
    go_ret
    exact ⟨ret_b HT.out.symm, below_trans hb0 (below_drew _)⟩
  have q1 : (kf == 1) = true := by simpa using hk
  rw [q1, Bool.true_and] at HT
  clear hk
  generalize hg : tagC a = tg at *
  have HG := hid hg
  clear hg
  generalize hr : typC n a (gk tg) (.mk kt ts) = r at *
  have HV := hid hr
  clear hr
  go_enter Try.func51, Try.ntmps51
  go_wp2_with fail
  refine wp_region_held_drew (S := (fun w' => Below ((((w.alloc (Obj.cells #[.int .i64 5, .int .i64 0, .int .i64 l, .slice (some ⟨bc, oc, none⟩) 1 cc] 30)).alloc (Obj.cells #[.int .i64 kf, .slice af nf cf] 25)).alloc (Obj.cells #[.int .i64 kt, .slice at' nt ct] 25))).heap.size (((w.alloc (Obj.cells #[.int .i64 5, .int .i64 0, .int .i64 l, .slice (some ⟨bc, oc, none⟩) 1 cc] 30)).alloc (Obj.cells #[.int .i64 kf, .slice af nf cf] 25)).alloc (Obj.cells #[.int .i64 kt, .slice at' nt ct] 25)) w' ∧ w'.cell? ⟨w.heap.size, 0, none⟩ = some (.int .i64 5) ∧ w'.cell? ⟨w.heap.size, 1, none⟩ = some (.int .i64 0) ∧ w'.cell? ⟨w.heap.size, 2, none⟩ = some (.int .i64 l) ∧ w'.cell? ⟨w.heap.size, 3, none⟩ = some (.slice (some ⟨bc, oc, none⟩) 1 cc) ∧ w'.cell? ⟨w.heap.size + 1, 0, none⟩ = some (.int .i64 kf) ∧ w'.cell? ⟨w.heap.size + 1, 1, none⟩ = some (.slice af nf cf) ∧ w'.cell? ⟨w.heap.size + 1 + 1, 0, none⟩ = some (.int .i64 kt) ∧ w'.cell? ⟨w.heap.size + 1 + 1, 1, none⟩ = some (.slice at' nt ct) ∧ w'.cell? ⟨bc, oc, none⟩ = some (.int .i64 ka) ∧ w'.cell? ⟨bc, oc + 1, none⟩ = some (.int .i64 ga) ∧ w'.cell? ⟨bc, oc + 2, none⟩ = some (.int .i64 la) ∧ w'.cell? ⟨bc, oc + 3, none⟩ = some (.slice aa na ca))) (by kernel_rfl) ?_ (fun hS0 => ?_)
  · (refine (fun hB => ⟨hB, cell_keep xC0 hB, cell_keep xC1 hB, cell_keep xC2 hB, cell_keep xC3 hB, cell_keep xF0 hB, cell_keep xF1 hB, cell_keep xT0 hB, cell_keep xT1 hB, cell_keep d0 hB, cell_keep d1 hB, cell_keep d2 hB, cell_keep d3 hB⟩ : Below ((((w.alloc (Obj.cells #[.int .i64 5, .int .i64 0, .int .i64 l, .slice (some ⟨bc, oc, none⟩) 1 cc] 30)).alloc (Obj.cells #[.int .i64 kf, .slice af nf cf] 25)).alloc (Obj.cells #[.int .i64 kt, .slice at' nt ct] 25))).heap.size (((w.alloc (Obj.cells #[.int .i64 5, .int .i64 0, .int .i64 l, .slice (some ⟨bc, oc, none⟩) 1 cc] 30)).alloc (Obj.cells #[.int .i64 kf, .slice af nf cf] 25)).alloc (Obj.cells #[.int .i64 kt, .slice at' nt ct] 25)) _ → _) ?_; exact below_drew _)
  refine regTake (i := 0) (v := ?vn13_0) rfl (by kernel_rfl) (by kernel_rfl) (by kernel_rfl) (fun _ _ _ h => h) (Or.inl ⟨by rfl, ?hyn13_0⟩) (by assumption) ?_
  case hyn13_0 => (intro w hSw; (try dsimp only at hSw); go_simp; (try with_reducible rfl))
  try simp only [Act.put, List.setIfInBounds_toArray, List.set_cons_zero, List.set_cons_succ]
  refine regTake (i := 1) (v := ?vn13_1) rfl (by kernel_rfl) (by kernel_rfl) (by kernel_rfl) (fun _ _ _ h => h) (Or.inl ⟨by rfl, ?hyn13_1⟩) (by assumption) ?_
  case hyn13_1 => (intro w hSw; (try dsimp only at hSw); go_simp; (try with_reducible rfl))
  try simp only [Act.put, List.setIfInBounds_toArray, List.set_cons_zero, List.set_cons_succ]
  refine regTake (i := 2) (v := ?vn13_2) rfl (by kernel_rfl) (by kernel_rfl) (by kernel_rfl) (fun _ _ _ h => h) (Or.inl ⟨by rfl, ?hyn13_2⟩) (by assumption) ?_
  case hyn13_2 => (intro w hSw; (try dsimp only at hSw); go_simp; (try with_reducible rfl))
  try simp only [Act.put, List.setIfInBounds_toArray, List.set_cons_zero, List.set_cons_succ]
  refine regTake (i := 3) (v := ?vn13_3) rfl (by kernel_rfl) (by kernel_rfl) (by kernel_rfl) (fun _ _ _ h => h) (Or.inl ⟨by rfl, ?hyn13_3⟩) (by assumption) ?_
  case hyn13_3 => (intro w hSw; (try dsimp only at hSw); go_simp; (try with_reducible rfl))
  try simp only [Act.put, List.setIfInBounds_toArray, List.set_cons_zero, List.set_cons_succ]
  refine regTake (i := 4) (v := ?vn13_4) rfl (by kernel_rfl) (by kernel_rfl) (by kernel_rfl) (fun _ _ _ h => h) (Or.inl ⟨by rfl, ?hyn13_4⟩) (by assumption) ?_
  case hyn13_4 => (intro w hSw; (try dsimp only at hSw); go_simp; (try with_reducible rfl))
  try simp only [Act.put, List.setIfInBounds_toArray, List.set_cons_zero, List.set_cons_succ]
  refine regTake (i := 5) (v := ?vn13_5) rfl (by kernel_rfl) (by kernel_rfl) (by kernel_rfl) (fun _ _ _ h => h) (Or.inl ⟨by rfl, ?hyn13_5⟩) (by assumption) ?_
  case hyn13_5 => (intro w hSw; (try dsimp only at hSw); go_simp; (try with_reducible rfl))
  try simp only [Act.put, List.setIfInBounds_toArray, List.set_cons_zero, List.set_cons_succ]
  refine regTake (i := 6) (v := ?vn13_6) rfl (by kernel_rfl) (by kernel_rfl) (by kernel_rfl) (fun _ _ _ h => h) (Or.inl ⟨by rfl, ?hyn13_6⟩) (by assumption) ?_
  case hyn13_6 => (intro w hSw; (try dsimp only at hSw); go_simp; (try with_reducible rfl))
  try simp only [Act.put, List.setIfInBounds_toArray, List.set_cons_zero, List.set_cons_succ]
  refine regTake (i := 7) (v := ?vn13_7) rfl (by kernel_rfl) (by kernel_rfl) (by kernel_rfl) (fun _ _ _ h => h) (Or.inl ⟨by rfl, ?hyn13_7⟩) (by assumption) ?_
  case hyn13_7 => (intro w hSw; (try dsimp only at hSw); go_simp; (try with_reducible rfl))
  try simp only [Act.put, List.setIfInBounds_toArray, List.set_cons_zero, List.set_cons_succ]
  refine regTake (i := 8) (v := ?vn13_8) rfl (by kernel_rfl) (by kernel_rfl) (by kernel_rfl) (fun _ _ _ h => h) (Or.inl ⟨by rfl, ?hyn13_8⟩) (by assumption) ?_
  case hyn13_8 => (intro w hSw; (try dsimp only at hSw); go_simp; (try with_reducible rfl))
  try simp only [Act.put, List.setIfInBounds_toArray, List.set_cons_zero, List.set_cons_succ]
  refine regTake (i := 9) (v := ?vn13_9) rfl (by kernel_rfl) (by kernel_rfl) (by kernel_rfl) (fun _ _ _ h => h) (Or.inl ⟨by rfl, ?hyn13_9⟩) (by assumption) ?_
  case hyn13_9 => (intro w hSw; (try dsimp only at hSw); go_simp; (try with_reducible rfl))
  try simp only [Act.put, List.setIfInBounds_toArray, List.set_cons_zero, List.set_cons_succ]
  refine regTake (i := 10) (v := ?vn13_10) rfl (by kernel_rfl) (by kernel_rfl) (by kernel_rfl) (fun _ _ _ h => h) (Or.inl ⟨by rfl, ?hyn13_10⟩) (by assumption) ?_
  case hyn13_10 => (intro w hSw; (try dsimp only at hSw); go_simp; (try with_reducible rfl))
  try simp only [Act.put, List.setIfInBounds_toArray, List.set_cons_zero, List.set_cons_succ]
  refine regTake (i := 11) (v := ?vn13_11) rfl (by kernel_rfl) (by kernel_rfl) (by kernel_rfl) (fun _ _ _ h => h) (Or.inl ⟨by rfl, ?hyn13_11⟩) (by assumption) ?_
  case hyn13_11 => (intro w hSw; (try dsimp only at hSw); go_simp; (try with_reducible rfl))
  try simp only [Act.put, List.setIfInBounds_toArray, List.set_cons_zero, List.set_cons_succ]
  refine regTake (i := 14) (v := ?vn13_14) rfl (by kernel_rfl) (by kernel_rfl) (by kernel_rfl) (fun _ _ _ h => h) (Or.inl ⟨by rfl, ?hyn13_14⟩) (by assumption) ?_
  case hyn13_14 => (intro w hSw; (try dsimp only at hSw); go_simp; (try with_reducible rfl))
  try simp only [Act.put, List.setIfInBounds_toArray, List.set_cons_zero, List.set_cons_succ]
  refine wpAnyH_ready (rs := [12]) (by kernel_rfl) (by simp) ?_
  refine regCons rfl (fun K hK => ?_)
  go_simp
  refine (tagi_any n _ _ _ _ HTW.out (H.out.1.below (below_drew _))).mono ?_
  rw [HG.out]
  rintro e w1 ⟨rfl, hb1⟩
  have hk0 := below_trans (below_drew (((w.alloc (Obj.cells #[.int .i64 5, .int .i64 0, .int .i64 l, .slice (some ⟨bc, oc, none⟩) 1 cc] 30)).alloc (Obj.cells #[.int .i64 kf, .slice af nf cf] 25)).alloc (Obj.cells #[.int .i64 kt, .slice at' nt ct] 25))) hb1
  refine hK.out _ _ ?_ (fun hS1 => ?_)
  · (refine (fun hB => ⟨hB, cell_keep xC0 hB, cell_keep xC1 hB, cell_keep xC2 hB, cell_keep xC3 hB, cell_keep xF0 hB, cell_keep xF1 hB, cell_keep xT0 hB, cell_keep xT1 hB, cell_keep d0 hB, cell_keep d1 hB, cell_keep d2 hB, cell_keep d3 hB⟩ : Below ((((w.alloc (Obj.cells #[.int .i64 5, .int .i64 0, .int .i64 l, .slice (some ⟨bc, oc, none⟩) 1 cc] 30)).alloc (Obj.cells #[.int .i64 kf, .slice af nf cf] 25)).alloc (Obj.cells #[.int .i64 kt, .slice at' nt ct] 25))).heap.size (((w.alloc (Obj.cells #[.int .i64 5, .int .i64 0, .int .i64 l, .slice (some ⟨bc, oc, none⟩) 1 cc] 30)).alloc (Obj.cells #[.int .i64 kf, .slice af nf cf] 25)).alloc (Obj.cells #[.int .i64 kt, .slice at' nt ct] 25)) _ → _) ?_; exact hk0)
  clear hK K hS0
  try simp only [Act.put, List.setIfInBounds_toArray, List.set_cons_zero, List.set_cons_succ]
  refine wpAnyH_ready (rs := [13]) (by kernel_rfl) (by simp) ?_
  refine regCons rfl (fun K hK => ?_)
  go_simp
  refine (groundOfKind_any tg HTR.out _).mono ?_
  rintro e w2 ⟨v2, g2, rfl, hat2, hf2, hb2⟩
  obtain ⟨kg, ng, ag, cg, rfl⟩ := hat2.agg
  have hk1 := below_trans hk0 hb2
  refine hK.out _ _ ?_ (fun hS2 => ?_)
  · (refine (fun hB => ⟨hB, cell_keep xC0 hB, cell_keep xC1 hB, cell_keep xC2 hB, cell_keep xC3 hB, cell_keep xF0 hB, cell_keep xF1 hB, cell_keep xT0 hB, cell_keep xT1 hB, cell_keep d0 hB, cell_keep d1 hB, cell_keep d2 hB, cell_keep d3 hB⟩ : Below ((((w.alloc (Obj.cells #[.int .i64 5, .int .i64 0, .int .i64 l, .slice (some ⟨bc, oc, none⟩) 1 cc] 30)).alloc (Obj.cells #[.int .i64 kf, .slice af nf cf] 25)).alloc (Obj.cells #[.int .i64 kt, .slice at' nt ct] 25))).heap.size (((w.alloc (Obj.cells #[.int .i64 5, .int .i64 0, .int .i64 l, .slice (some ⟨bc, oc, none⟩) 1 cc] 30)).alloc (Obj.cells #[.int .i64 kf, .slice af nf cf] 25)).alloc (Obj.cells #[.int .i64 kt, .slice at' nt ct] 25)) _ → _) ?_; exact hk1)
  clear hK K hS1
  try simp only [Act.put, List.setIfInBounds_toArray, List.set_cons_zero, List.set_cons_succ]
  refine wpAnyH_ready (rs := [15]) (by kernel_rfl) (by simp) ?_
  refine regCons rfl (fun K hK => ?_)
  go_simp
  refine (HIH.out a (gk tg) (.mk kt ts) _ _ _ _ _ _ _ HP.out.1 HP.out.2.1 HP.out.2.2 (H.out.1.below hk1) hat2 (H.out.2.below hk1)).mono ?_
  rw [HV.out]
  rintro e w3 ⟨rfl, hb3⟩
  have hk2 := below_trans hk1 hb3
  refine hK.out _ _ ?_ (fun hS3 => ?_)
  · (refine (fun hB => ⟨hB, cell_keep xC0 hB, cell_keep xC1 hB, cell_keep xC2 hB, cell_keep xC3 hB, cell_keep xF0 hB, cell_keep xF1 hB, cell_keep xT0 hB, cell_keep xT1 hB, cell_keep d0 hB, cell_keep d1 hB, cell_keep d2 hB, cell_keep d3 hB⟩ : Below ((((w.alloc (Obj.cells #[.int .i64 5, .int .i64 0, .int .i64 l, .slice (some ⟨bc, oc, none⟩) 1 cc] 30)).alloc (Obj.cells #[.int .i64 kf, .slice af nf cf] 25)).alloc (Obj.cells #[.int .i64 kt, .slice at' nt ct] 25))).heap.size (((w.alloc (Obj.cells #[.int .i64 5, .int .i64 0, .int .i64 l, .slice (some ⟨bc, oc, none⟩) 1 cc] 30)).alloc (Obj.cells #[.int .i64 kf, .slice af nf cf] 25)).alloc (Obj.cells #[.int .i64 kt, .slice at' nt ct] 25)) _ → _) ?_; exact hk2)
  clear hK K hS2
  try simp only [Act.put, List.setIfInBounds_toArray, List.set_cons_zero, List.set_cons_succ]
  refine regTake (i := 16) (v := .bool r) rfl (by kernel_rfl) (by kernel_rfl) (by kernel_rfl) (fun _ _ _ h => h) (Or.inl ⟨by rfl, ?hyn13_16⟩) (by assumption) ?_
  case hyn13_16 => (intro w hSw; (try dsimp only at hSw); go_simp; (try with_reducible rfl))
  try simp only [Act.put, List.setIfInBounds_toArray, List.set_cons_zero, List.set_cons_succ]
  refine regTake (i := 17) (v := ?vn13_17) rfl (by kernel_rfl) (by kernel_rfl) (by kernel_rfl) (fun _ _ _ h => h) (Or.inl ⟨by rfl, ?hyn13_17⟩) (by assumption) ?_
  case hyn13_17 => (intro w hSw; (try dsimp only at hSw); go_simp; (try with_reducible rfl))
  try simp only [Act.put, List.setIfInBounds_toArray, List.set_cons_zero, List.set_cons_succ]
  refine wpAnyH_done (by kernel_rfl) ?_ _
  go_wp2_with fail
  go_ret
  exact ⟨ret_b HT.out.symm, below_trans hb0 (hk2)⟩

theorem leads_any : ∀ n, LdC n
  | 0 => fun c f t vc vf vt fc ff ft w h => by simp [shpK] at h
  | n + 1 => by
    intro c f t vc vf vt fc ff ft w hc hf ht hatc hatf hatt
    obtain ⟨k, g, l, ts, rfl⟩ := c.shape
    obtain ⟨hn, hs⟩ := shpK_node hc
    rcases nodeC_cases hn with ⟨rfl, rfl, rfl, _⟩ | ⟨rfl, rfl, rfl, a, b, rfl⟩ | ⟨rfl, rfl, rfl, a, b, rfl⟩ | ⟨rfl, rfl, rfl, a, rfl, hp⟩ | ⟨rfl, rfl, _, a, rfl, hu⟩ | ⟨rfl, rfl, _⟩
    · exact leads_id n g 0 f t vc vf vt fc ff ft w hatc hatf hatt
    · exact leads_two2 n (leads_any n) a b f t vc vf vt fc ff ft w (hs a (by simp)) (hs b (by simp)) hf ht hatc hatf hatt
    · exact leads_two3 n (leads_any n) a b f t vc vf vt fc ff ft w (hs a (by simp)) (hs b (by simp)) hf ht hatc hatf hatt
    · exact leads_inj n (leads_any n) a f t vc vf vt fc ff ft w (hs a (by simp)) hp hf ht hatc hatf hatt
    · exact leads_prj n (leads_any n) a l f t vc vf vt fc ff ft w (hs a (by simp)) hu hf ht hatc hatf hatt
    · exact leads_fail n g l f t vc vf vt fc ff ft w hatc hatf hatt
end Go.Proofs.Ytolhfcpmhhhjpaa

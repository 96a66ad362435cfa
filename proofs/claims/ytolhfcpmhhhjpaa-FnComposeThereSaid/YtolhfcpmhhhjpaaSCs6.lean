/- The specification's l6Cast. -/
import Derived.Test.YtolhfcpmhhhjpaaSG3
import Derived.Test.YtolhfcpmhhhjpaaSG1
import Derived.Test.YtolhfcpmhhhjpaaSPkA
namespace Go.Proofs.Ytolhfcpmhhhjpaa
open Go.RowKit

def l6CastC (n : Nat) : Prop := ∀ (f t : Ty) (l : Int) (d : Nat) (vf vt : Value) (ff ft : List Nat) (w : World), fuelOk n d f t → d ≤ 4 → shp d f = true → shp d t = true → cons f t = true → -99 ≤ l → l ≤ 99 → f.At w vf ff → t.At w vt ft →
  Calls Try.prog 42 #[vf, vt, .int .i64 l] w (MadeC w (cst n f t l))

theorem l6Cast_from {n : Nat} (ih : l6CastC n) {W0 w1 : World} (u : Below W0.heap.size W0 w1) {f t : Ty} {l : Int} {d : Nat} {vf vt : Value} {ff ft : List Nat} (h1 : fuelOk n d f t) (h2 : d ≤ 4) (h3 : shp d f = true) (h4 : shp d t = true) (h5 : cons f t = true) (h6 : -99 ≤ l) (h7 : l ≤ 99) (h8 : f.At W0 vf ff) (h9 : t.At W0 vt ft) :
    Calls Try.prog 42 #[vf, vt, .int .i64 l] w1 fun e w' => MadeC w1 (cst n f t l) e w' ∧ Below W0.heap.size W0 w1 :=
  (ih f t l d vf vt ff ft w1 h1 h2 h3 h4 h5 h6 h7 (h8.below u) (h9.below u)).mono fun _ _ h => ⟨h, u⟩

theorem ground6_from {W0 w1 : World} (u : Below W0.heap.size W0 w1) {f : Ty} {vf : Value} {ff : List Nat} (h : f.At W0 vf ff) (hw : wf f) (hn : f.cnt ≤ 1048576) :
    Calls Try.prog 83 #[vf] w1 fun e w' => MadeT w1 (gk (kindT f)) e w' ∧ Below W0.heap.size W0 w1 :=
  (l1Ground_any f vf ff w1 (h.below u) hn).mono fun _ _ h => ⟨grd_gk hw ▸ h, u⟩

theorem l6Id_any (k : Int) (w : World) : Calls Try.prog 82 #[.int .i64 k] w fun e w' => e = .returned (.agg #[.int .i64 1, .int .i64 k, .int .i64 0, .slice none 0 0]) ∧ Below w.heap.size w w' := by
  go_enter Try.func82, Try.ntmps82
  go_wp2_with fail
  exact bodyPost_ret (v := .agg #[.int .i64 1, .int .i64 k, .int .i64 0, .slice none 0 0]) (by simp [results, Try.results82, go_sem]) rfl ⟨rfl, (Below.refl _ _).alloc (Nat.le_refl _) _⟩

set_option maxHeartbeats 1000000 in
theorem l6Cast_id (k l : Int) (hk : k = 1 ∨ k = 2 ∨ k = 3) (vf vt : Value) (ff ft : List Nat) (w : World) (hatf : (Ty.mk k []).At w vf ff) (hatt : (Ty.mk k []).At w vt ft) :
    Calls Try.prog 42 #[vf, vt, .int .i64 l] w (MadeC w (.mk 1 k 0 [])) := by
  obtain ⟨sf, rfl, hsf⟩ := Ty.at_mk.1 hatf
  obtain ⟨st, rfl, hst⟩ := Ty.at_mk.1 hatt
  obtain ⟨af, cf, rfl⟩ := hsf.none'
  obtain ⟨at', ct, rfl⟩ := hst.none'
  clear hatf hatt hsf hst
  rcases hk with rfl | rfl | rfl
  · have hb0 : Below w.heap.size w (((w.alloc (Obj.cells #[.int .i64 1, .slice af 0 cf] 25)).alloc (Obj.cells #[.int .i64 1, .slice at' 0 ct] 25)).alloc (Obj.cells #[.int .i64 0, .int .i64 0, .int .i64 0, .slice none 0 0] 30)) := (((Below.refl _ _).alloc (Nat.le_refl _) _).alloc (by simp) _).alloc (by simp; omega) _
    have hs0 : ((((w.alloc (Obj.cells #[.int .i64 1, .slice af 0 cf] 25)).alloc (Obj.cells #[.int .i64 1, .slice at' 0 ct] 25)).alloc (Obj.cells #[.int .i64 0, .int .i64 0, .int .i64 0, .slice none 0 0] 30))).heap.size = w.heap.size + 1 + 1 + 1 := by simp
    obtain ⟨_, _, bZ⟩ := three3 (Below.refl ((((w.alloc (Obj.cells #[.int .i64 1, .slice af 0 cf] 25)).alloc (Obj.cells #[.int .i64 1, .slice at' 0 ct] 25)).alloc (Obj.cells #[.int .i64 0, .int .i64 0, .int .i64 0, .slice none 0 0] 30))).heap.size (((w.alloc (Obj.cells #[.int .i64 1, .slice af 0 cf] 25)).alloc (Obj.cells #[.int .i64 1, .slice at' 0 ct] 25)).alloc (Obj.cells #[.int .i64 0, .int .i64 0, .int .i64 0, .slice none 0 0] 30)))
    have HFIN := hid (fun (wF : World) (h : Below ((((w.alloc (Obj.cells #[.int .i64 1, .slice af 0 cf] 25)).alloc (Obj.cells #[.int .i64 1, .slice at' 0 ct] 25)).alloc (Obj.cells #[.int .i64 0, .int .i64 0, .int .i64 0, .slice none 0 0] 30))).heap.size (((w.alloc (Obj.cells #[.int .i64 1, .slice af 0 cf] 25)).alloc (Obj.cells #[.int .i64 1, .slice at' 0 ct] 25)).alloc (Obj.cells #[.int .i64 0, .int .i64 0, .int .i64 0, .slice none 0 0] 30)) wF) => close4 (w := w) (wF := wF) (M := w.heap.size + 1 + 1) (lo := w.heap.size + 1 + 1 + 1) (t := .mk 1 1 0 []) (fp := []) (Co.at_mk.2 ⟨.slice none 0 0, rfl, CSl.nilA⟩) (Fresh.nil _ _) (by omega) (by omega) (below_trans hb0 h))
    go_enter Try.func42, Try.ntmps42
    go_wp2_with fail
    refine (l6Id_any _ _).mono ?_
    rintro e w1 ⟨rfl, hb1⟩
    have bM := (hb1.block (w.heap.size + 1 + 1) (by omega)).trans bZ
    have z0 := (cell_of_block (o := 0) bM).trans (show _ = some (.int .i64 0) from rfl)
    have z1 := (cell_of_block (o := 1) bM).trans (show _ = some (.int .i64 0) from rfl)
    have z2 := (cell_of_block (o := 2) bM).trans (show _ = some (.int .i64 0) from rfl)
    have z3 := (cell_of_block (o := 3) bM).trans (show _ = some (.slice none 0 0) from rfl)
    have yz := fun o => frozen_of_block (o := o) bM
    have FIN := hid (HFIN.out _ hb1)
    simp only [put4, Nat.zero_add] at FIN
    go_wp2_with fail
    exact bodyPost_ret (v := .agg #[.int .i64 1, .int .i64 1, .int .i64 0, .slice none 0 0]) (by simp [results, Try.results42, go_sem, z0, z1, z2, z3]) rfl FIN.out
  · have hb0 : Below w.heap.size w (((w.alloc (Obj.cells #[.int .i64 2, .slice af 0 cf] 25)).alloc (Obj.cells #[.int .i64 2, .slice at' 0 ct] 25)).alloc (Obj.cells #[.int .i64 0, .int .i64 0, .int .i64 0, .slice none 0 0] 30)) := (((Below.refl _ _).alloc (Nat.le_refl _) _).alloc (by simp) _).alloc (by simp; omega) _
    have hs0 : ((((w.alloc (Obj.cells #[.int .i64 2, .slice af 0 cf] 25)).alloc (Obj.cells #[.int .i64 2, .slice at' 0 ct] 25)).alloc (Obj.cells #[.int .i64 0, .int .i64 0, .int .i64 0, .slice none 0 0] 30))).heap.size = w.heap.size + 1 + 1 + 1 := by simp
    obtain ⟨_, _, bZ⟩ := three3 (Below.refl ((((w.alloc (Obj.cells #[.int .i64 2, .slice af 0 cf] 25)).alloc (Obj.cells #[.int .i64 2, .slice at' 0 ct] 25)).alloc (Obj.cells #[.int .i64 0, .int .i64 0, .int .i64 0, .slice none 0 0] 30))).heap.size (((w.alloc (Obj.cells #[.int .i64 2, .slice af 0 cf] 25)).alloc (Obj.cells #[.int .i64 2, .slice at' 0 ct] 25)).alloc (Obj.cells #[.int .i64 0, .int .i64 0, .int .i64 0, .slice none 0 0] 30)))
    have HFIN := hid (fun (wF : World) (h : Below ((((w.alloc (Obj.cells #[.int .i64 2, .slice af 0 cf] 25)).alloc (Obj.cells #[.int .i64 2, .slice at' 0 ct] 25)).alloc (Obj.cells #[.int .i64 0, .int .i64 0, .int .i64 0, .slice none 0 0] 30))).heap.size (((w.alloc (Obj.cells #[.int .i64 2, .slice af 0 cf] 25)).alloc (Obj.cells #[.int .i64 2, .slice at' 0 ct] 25)).alloc (Obj.cells #[.int .i64 0, .int .i64 0, .int .i64 0, .slice none 0 0] 30)) wF) => close4 (w := w) (wF := wF) (M := w.heap.size + 1 + 1) (lo := w.heap.size + 1 + 1 + 1) (t := .mk 1 2 0 []) (fp := []) (Co.at_mk.2 ⟨.slice none 0 0, rfl, CSl.nilA⟩) (Fresh.nil _ _) (by omega) (by omega) (below_trans hb0 h))
    go_enter Try.func42, Try.ntmps42
    go_wp2_with fail
    refine (l6Id_any _ _).mono ?_
    rintro e w1 ⟨rfl, hb1⟩
    have bM := (hb1.block (w.heap.size + 1 + 1) (by omega)).trans bZ
    have z0 := (cell_of_block (o := 0) bM).trans (show _ = some (.int .i64 0) from rfl)
    have z1 := (cell_of_block (o := 1) bM).trans (show _ = some (.int .i64 0) from rfl)
    have z2 := (cell_of_block (o := 2) bM).trans (show _ = some (.int .i64 0) from rfl)
    have z3 := (cell_of_block (o := 3) bM).trans (show _ = some (.slice none 0 0) from rfl)
    have yz := fun o => frozen_of_block (o := o) bM
    have FIN := hid (HFIN.out _ hb1)
    simp only [put4, Nat.zero_add] at FIN
    go_wp2_with fail
    exact bodyPost_ret (v := .agg #[.int .i64 1, .int .i64 2, .int .i64 0, .slice none 0 0]) (by simp [results, Try.results42, go_sem, z0, z1, z2, z3]) rfl FIN.out
  · have hb0 : Below w.heap.size w (((w.alloc (Obj.cells #[.int .i64 3, .slice af 0 cf] 25)).alloc (Obj.cells #[.int .i64 3, .slice at' 0 ct] 25)).alloc (Obj.cells #[.int .i64 0, .int .i64 0, .int .i64 0, .slice none 0 0] 30)) := (((Below.refl _ _).alloc (Nat.le_refl _) _).alloc (by simp) _).alloc (by simp; omega) _
    have hs0 : ((((w.alloc (Obj.cells #[.int .i64 3, .slice af 0 cf] 25)).alloc (Obj.cells #[.int .i64 3, .slice at' 0 ct] 25)).alloc (Obj.cells #[.int .i64 0, .int .i64 0, .int .i64 0, .slice none 0 0] 30))).heap.size = w.heap.size + 1 + 1 + 1 := by simp
    obtain ⟨_, _, bZ⟩ := three3 (Below.refl ((((w.alloc (Obj.cells #[.int .i64 3, .slice af 0 cf] 25)).alloc (Obj.cells #[.int .i64 3, .slice at' 0 ct] 25)).alloc (Obj.cells #[.int .i64 0, .int .i64 0, .int .i64 0, .slice none 0 0] 30))).heap.size (((w.alloc (Obj.cells #[.int .i64 3, .slice af 0 cf] 25)).alloc (Obj.cells #[.int .i64 3, .slice at' 0 ct] 25)).alloc (Obj.cells #[.int .i64 0, .int .i64 0, .int .i64 0, .slice none 0 0] 30)))
    have HFIN := hid (fun (wF : World) (h : Below ((((w.alloc (Obj.cells #[.int .i64 3, .slice af 0 cf] 25)).alloc (Obj.cells #[.int .i64 3, .slice at' 0 ct] 25)).alloc (Obj.cells #[.int .i64 0, .int .i64 0, .int .i64 0, .slice none 0 0] 30))).heap.size (((w.alloc (Obj.cells #[.int .i64 3, .slice af 0 cf] 25)).alloc (Obj.cells #[.int .i64 3, .slice at' 0 ct] 25)).alloc (Obj.cells #[.int .i64 0, .int .i64 0, .int .i64 0, .slice none 0 0] 30)) wF) => close4 (w := w) (wF := wF) (M := w.heap.size + 1 + 1) (lo := w.heap.size + 1 + 1 + 1) (t := .mk 1 3 0 []) (fp := []) (Co.at_mk.2 ⟨.slice none 0 0, rfl, CSl.nilA⟩) (Fresh.nil _ _) (by omega) (by omega) (below_trans hb0 h))
    go_enter Try.func42, Try.ntmps42
    go_wp2_with fail
    refine (l6Id_any _ _).mono ?_
    rintro e w1 ⟨rfl, hb1⟩
    have bM := (hb1.block (w.heap.size + 1 + 1) (by omega)).trans bZ
    have z0 := (cell_of_block (o := 0) bM).trans (show _ = some (.int .i64 0) from rfl)
    have z1 := (cell_of_block (o := 1) bM).trans (show _ = some (.int .i64 0) from rfl)
    have z2 := (cell_of_block (o := 2) bM).trans (show _ = some (.int .i64 0) from rfl)
    have z3 := (cell_of_block (o := 3) bM).trans (show _ = some (.slice none 0 0) from rfl)
    have yz := fun o => frozen_of_block (o := o) bM
    have FIN := hid (HFIN.out _ hb1)
    simp only [put4, Nat.zero_add] at FIN
    go_wp2_with fail
    exact bodyPost_ret (v := .agg #[.int .i64 1, .int .i64 3, .int .i64 0, .slice none 0 0]) (by simp [results, Try.results42, go_sem, z0, z1, z2, z3]) rfl FIN.out
set_option maxRecDepth 100000 in
set_option maxHeartbeats 4000000 in
theorem l6Cast_inj (n : Nat) (ih : l6CastC n) (f : Ty) (l : Int) (d : Nat) (vf vt : Value) (ff ft : List Nat) (w : World) (hk : kindT f ≠ 1) (hn : 2 * d ≤ n + 1) (hd : d ≤ 4) (hs : shp d f = true) (hl1 : -99 ≤ l) (hl2 : l ≤ 99) (hatf : f.At w vf ff) (hatt : (Ty.mk 1 []).At w vt ft) :
    Calls Try.prog 42 #[vf, vt, .int .i64 l] w (MadeC w (.mk 4 0 0 [cst n f (gk (kindT f)) l])) := by
  obtain ⟨kf, fs, rfl⟩ := f.shape
  obtain ⟨st, rfl, hst⟩ := Ty.at_mk.1 hatt
  obtain ⟨at', ct, rfl⟩ := hst.none'
  obtain ⟨sf, rfl, hsf⟩ := Ty.at_mk.1 hatf
  obtain ⟨af, cf, rfl⟩ := hsf.shape
  generalize hnf : fs.length = nf at *
  have hk1 : (kf == 1) = false := by rw [beq_eq_false_iff_ne]; exact hk
  have hkk : (kf == 1) = false := hk1
  have hkx : kindT (.mk kf fs) = kf := rfl
  have hb0 : Below w.heap.size w (((w.alloc (Obj.cells #[.int .i64 kf, .slice af nf cf] 25)).alloc (Obj.cells #[.int .i64 1, .slice at' 0 ct] 25)).alloc (Obj.cells #[.int .i64 0, .int .i64 0, .int .i64 0, .slice none 0 0] 30)) := (((Below.refl _ _).alloc (Nat.le_refl _) _).alloc (by simp) _).alloc (by simp; omega) _
  have hs0 : ((((w.alloc (Obj.cells #[.int .i64 kf, .slice af nf cf] 25)).alloc (Obj.cells #[.int .i64 1, .slice at' 0 ct] 25)).alloc (Obj.cells #[.int .i64 0, .int .i64 0, .int .i64 0, .slice none 0 0] 30))).heap.size = w.heap.size + 1 + 1 + 1 := by simp
  obtain ⟨bF, bG, bZ⟩ := three3 (Below.refl ((((w.alloc (Obj.cells #[.int .i64 kf, .slice af nf cf] 25)).alloc (Obj.cells #[.int .i64 1, .slice at' 0 ct] 25)).alloc (Obj.cells #[.int .i64 0, .int .i64 0, .int .i64 0, .slice none 0 0] 30))).heap.size (((w.alloc (Obj.cells #[.int .i64 kf, .slice af nf cf] 25)).alloc (Obj.cells #[.int .i64 1, .slice at' 0 ct] 25)).alloc (Obj.cells #[.int .i64 0, .int .i64 0, .int .i64 0, .slice none 0 0] 30)))
  have x0 : ((((w.alloc (Obj.cells #[.int .i64 kf, .slice af nf cf] 25)).alloc (Obj.cells #[.int .i64 1, .slice at' 0 ct] 25)).alloc (Obj.cells #[.int .i64 0, .int .i64 0, .int .i64 0, .slice none 0 0] 30))).cell? ⟨w.heap.size, 0, none⟩ = some (.int .i64 kf) := by rw [cell_of_block bF]; rfl
  have x1 : ((((w.alloc (Obj.cells #[.int .i64 kf, .slice af nf cf] 25)).alloc (Obj.cells #[.int .i64 1, .slice at' 0 ct] 25)).alloc (Obj.cells #[.int .i64 0, .int .i64 0, .int .i64 0, .slice none 0 0] 30))).cell? ⟨w.heap.size, 1, none⟩ = some (.slice af nf cf) := by rw [cell_of_block bF]; rfl
  have y0 : ((((w.alloc (Obj.cells #[.int .i64 kf, .slice af nf cf] 25)).alloc (Obj.cells #[.int .i64 1, .slice at' 0 ct] 25)).alloc (Obj.cells #[.int .i64 0, .int .i64 0, .int .i64 0, .slice none 0 0] 30))).cell? ⟨w.heap.size + 1, 0, none⟩ = some (.int .i64 1) := by rw [cell_of_block bG]; rfl
  have y1 : ((((w.alloc (Obj.cells #[.int .i64 kf, .slice af nf cf] 25)).alloc (Obj.cells #[.int .i64 1, .slice at' 0 ct] 25)).alloc (Obj.cells #[.int .i64 0, .int .i64 0, .int .i64 0, .slice none 0 0] 30))).cell? ⟨w.heap.size + 1, 1, none⟩ = some (.slice at' 0 ct) := by rw [cell_of_block bG]; rfl
  have HM := hid (fun (w' : World) (h : Below ((((w.alloc (Obj.cells #[.int .i64 kf, .slice af nf cf] 25)).alloc (Obj.cells #[.int .i64 1, .slice at' 0 ct] 25)).alloc (Obj.cells #[.int .i64 0, .int .i64 0, .int .i64 0, .slice none 0 0] 30))).heap.size (((w.alloc (Obj.cells #[.int .i64 kf, .slice af nf cf] 25)).alloc (Obj.cells #[.int .i64 1, .slice at' 0 ct] 25)).alloc (Obj.cells #[.int .i64 0, .int .i64 0, .int .i64 0, .slice none 0 0] 30)) w') => (h.block (w.heap.size + 1 + 1) (by omega)).trans bZ)
  have HB := hid hb0
  have HZ0 := hid hs0
  have HS0 := hid (show ∀ w', Below ((((w.alloc (Obj.cells #[.int .i64 kf, .slice af nf cf] 25)).alloc (Obj.cells #[.int .i64 1, .slice at' 0 ct] 25)).alloc (Obj.cells #[.int .i64 0, .int .i64 0, .int .i64 0, .slice none 0 0] 30))).heap.size (((w.alloc (Obj.cells #[.int .i64 kf, .slice af nf cf] 25)).alloc (Obj.cells #[.int .i64 1, .slice at' 0 ct] 25)).alloc (Obj.cells #[.int .i64 0, .int .i64 0, .int .i64 0, .slice none 0 0] 30)) w' → (fun w' => w'.cell? ⟨w.heap.size, 0, none⟩ = some (.int .i64 kf) ∧ w'.cell? ⟨w.heap.size, 1, none⟩ = some (.slice af nf cf) ∧ w'.cell? ⟨w.heap.size + 1, 0, none⟩ = some (.int .i64 1) ∧ w'.cell? ⟨w.heap.size + 1, 1, none⟩ = some (.slice at' 0 ct)) w' from fun w' h => ⟨cell_keep x0 h, cell_keep x1 h, cell_keep y0 h, cell_keep y1 h⟩)
  have HX := hid (hatf.below hb0)
  have HWF := hid (shp_wf hs)
  have HCN := hid (shp_cnt30 hs hd)
  have HSG := hid (shp_gk hs)
  have HCG := hid (cons_gk (shp_wf hs))
  have HS := hid hs
  have HKB := hid (wf_kind (shp_wf hs))
  have HIH := hid ih
  have HFU := hid (show 2 * d ≤ n + 1 from hn)
  rw [hkx] at *
  clear ih hb0 hs0 bF bG bZ hatf hatt hs hk hn hsf hst hnf hkx
  go_enter Try.func42, Try.ntmps42
  go_wp2_with fail
  refine regionL (s := 7) (S0 := (fun w' => w'.cell? ⟨w.heap.size, 0, none⟩ = some (.int .i64 kf) ∧ w'.cell? ⟨w.heap.size, 1, none⟩ = some (.slice af nf cf) ∧ w'.cell? ⟨w.heap.size + 1, 0, none⟩ = some (.int .i64 1) ∧ w'.cell? ⟨w.heap.size + 1, 1, none⟩ = some (.slice at' 0 ct))) (S1 := (fun _ => True)) (by kernel_rfl) (HS0.out _ (below_drew _)) (trivial) (fun hS0 => ?_)
  refine takeL0 (i := 0) (v := ?vq1) rfl rfl (by kernel_rfl) (by kernel_rfl) (by kernel_rfl) (by decide) (by kernel_rfl) (by kernel_rfl) (fun _ _ _ h => h) (Or.inl ⟨by rfl, ?hyq1⟩) (by assumption) ?_
  case hyq1 => (intro w hSw; (try dsimp only at hSw); go_simp; (try with_reducible rfl))
  try simp only [Act.put, List.setIfInBounds_toArray, List.set_cons_zero, List.set_cons_succ]
  refine takeL0 (i := 1) (v := ?vq2) rfl rfl (by kernel_rfl) (by kernel_rfl) (by kernel_rfl) (by decide) (by kernel_rfl) (by kernel_rfl) (fun _ _ _ h => h) (Or.inl ⟨by rfl, ?hyq2⟩) (by assumption) ?_
  case hyq2 => (intro w hSw; (try dsimp only at hSw); go_simp; (try with_reducible rfl))
  try simp only [Act.put, List.setIfInBounds_toArray, List.set_cons_zero, List.set_cons_succ]
  refine takeL0 (i := 3) (v := ?vq3) rfl rfl (by kernel_rfl) (by kernel_rfl) (by kernel_rfl) (by decide) (by kernel_rfl) (by kernel_rfl) (fun _ _ _ h => h) (Or.inl ⟨by rfl, ?hyq3⟩) (by assumption) ?_
  case hyq3 => (intro w hSw; (try dsimp only at hSw); go_simp; (try with_reducible rfl))
  try simp only [Act.put, List.setIfInBounds_toArray, List.set_cons_zero, List.set_cons_succ]
  refine readyL (rs := [2]) (by kernel_rfl) (by simp) ?_
  refine AllReadyL.cons rfl (fun K hK => ?_) AllReadyL.nil
  go_simp
  refine (ground6_from (W0 := (((w.alloc (Obj.cells #[.int .i64 kf, .slice af nf cf] 25)).alloc (Obj.cells #[.int .i64 1, .slice at' 0 ct] 25)).alloc (Obj.cells #[.int .i64 0, .int .i64 0, .int .i64 0, .slice none 0 0] 30))) (below_drew _) HX.out HWF.out HCN.out).mono ?_
  rintro e w1 ⟨⟨v1, g1, rfl, hat1, hf1, hb1⟩, hU1⟩
  obtain ⟨kg, ng, ag, cg, rfl⟩ := hat1.agg
  have hB1 := below_trans hU1 hb1
  refine hK.out _ _ ?_ (fun hS1 => ?_)
  · exact ⟨trivial, fun _ => HS0.out _ hB1⟩
  clear hK K hS0
  try simp only [Act.put, List.setIfInBounds_toArray, List.set_cons_zero, List.set_cons_succ]
  refine readyL (rs := [4]) (by kernel_rfl) (by simp) ?_
  refine AllReadyL.cons rfl (fun K hK => ?_) AllReadyL.nil
  go_simp
  refine (HIH.out (.mk kf fs) (gk kf) l d _ _ _ _ w1 (.inr ⟨HFU.out, rfl⟩) hd HS.out HSG.out HCG.out.1 hl1 hl2 (HX.out.below hB1) hat1).mono ?_
  rintro e w2 ⟨v2, g2, rfl, hat2, hf2, hb2⟩
  obtain ⟨p0, p1, p2, pn, pa, pc, rfl⟩ := hat2.agg
  have hB2 := below_trans hB1 hb2
  refine hK.out _ _ ?_ (fun hS2 => ?_)
  · exact ⟨trivial, fun _ => HS0.out _ hB2⟩
  clear hK K hS1
  try simp only [Act.put, List.setIfInBounds_toArray, List.set_cons_zero, List.set_cons_succ]
  refine readyL (rs := [5]) (by kernel_rfl) (by simp) ?_
  refine AllReadyL.cons rfl (fun K hK => ?_) AllReadyL.nil
  go_simp
  refine hK.out _ _ ?_ (fun hS3 => ?_)
  · exact ⟨trivial, fun _ => HS0.out _ (hB2.alloc hB2.size (Obj.cells #[.int .i64 p0, .int .i64 p1, .int .i64 p2, .slice pa pn pc] 30))⟩
  clear hK K hS2
  try simp only [Act.put, List.setIfInBounds_toArray, List.set_cons_zero, List.set_cons_succ]
  refine readyL (rs := [6]) (by kernel_rfl) (by simp) ?_
  refine AllReadyL.cons rfl (fun K hK => ?_) AllReadyL.nil
  go_simp
  refine hK.out _ _ ?_ (fun hS4 => ?_)
  · exact ⟨trivial, fun _ => HS0.out _ (hB2.alloc hB2.size (Obj.cells #[.int .i64 p0, .int .i64 p1, .int .i64 p2, .slice pa pn pc] 30))⟩
  clear hK K hS3
  try simp only [Act.put, List.setIfInBounds_toArray, List.set_cons_zero, List.set_cons_succ]
  refine readyL (rs := [7]) (by kernel_rfl) (by simp) ?_
  refine AllReadyL.cons rfl (fun K hK => ?_) AllReadyL.nil
  have bM := HM.out _ (hB2.alloc hB2.size (Obj.cells #[.int .i64 p0, .int .i64 p1, .int .i64 p2, .slice pa pn pc] 30))
  have z0 := (cell_of_block (o := 0) bM).trans (show _ = some (.int .i64 0) from rfl)
  have z1 := (cell_of_block (o := 1) bM).trans (show _ = some (.int .i64 0) from rfl)
  have z2 := (cell_of_block (o := 2) bM).trans (show _ = some (.int .i64 0) from rfl)
  have z3 := (cell_of_block (o := 3) bM).trans (show _ = some (.slice none 0 0) from rfl)
  have yz := fun o => frozen_of_block (o := o) bM
  go_simp
  refine hK.out _ _ ?_ (fun hS5 => ?_)
  · exact ⟨trivial, fun h => absurd (h.symm.trans (show _ = true by kernel_rfl)) (by decide)⟩
  clear hK K hS4
  try simp only [Act.put, List.setIfInBounds_toArray, List.set_cons_zero, List.set_cons_succ]
  refine doneL (by kernel_rfl) ?_ _
  have FIN := hid (close4 (w := w) (wF := (w2.alloc (Obj.cells #[.int .i64 p0, .int .i64 p1, .int .i64 p2, .slice pa pn pc] 30))) (M := w.heap.size + 1 + 1) (lo := w1.heap.size) (co_one (k := 4) (g := 0) (l := 0) (alloc_new w2 (Obj.cells #[.int .i64 p0, .int .i64 p1, .int .i64 p2, .slice pa pn pc] 30)) (hat2.below ((Below.refl w2.heap.size w2).alloc (Nat.le_refl _) (Obj.cells #[.int .i64 p0, .int .i64 p1, .int .i64 p2, .slice pa pn pc] 30)))) (Fresh.row (hf2.below ((Below.refl w2.heap.size w2).alloc (Nat.le_refl _) (Obj.cells #[.int .i64 p0, .int .i64 p1, .int .i64 p2, .slice pa pn pc] 30))) (alloc_new w2 (Obj.cells #[.int .i64 p0, .int .i64 p1, .int .i64 p2, .slice pa pn pc] 30)) hb2.size (fun x hx => (hf2.2 x hx).2.1)) (by omega) (by have := HZ0.out; have := hB1.size; omega) (below_trans HB.out (hB2.alloc hB2.size (Obj.cells #[.int .i64 p0, .int .i64 p1, .int .i64 p2, .slice pa pn pc] 30))))
  simp only [put4, Nat.zero_add] at FIN
  go_wp2_with fail
  exact bodyPost_ret (v := .agg #[.int .i64 4, .int .i64 0, .int .i64 0, .slice (some ⟨w2.heap.size, 0, none⟩) 1 1]) (by simp [results, Try.results42, go_sem, z0, z1, z2, z3]) rfl FIN.out
set_option maxRecDepth 100000 in
set_option maxHeartbeats 4000000 in
theorem l6Cast_prj (n : Nat) (ih : l6CastC n) (t : Ty) (l : Int) (d : Nat) (vf vt : Value) (ff ft : List Nat) (w : World) (hk : kindT t ≠ 1) (hn : 2 * d ≤ n + 1) (hd : d ≤ 4) (hs : shp d t = true) (hl1 : -99 ≤ l) (hl2 : l ≤ 99) (hatf : (Ty.mk 1 []).At w vf ff) (hatt : t.At w vt ft) :
    Calls Try.prog 42 #[vf, vt, .int .i64 l] w (MadeC w (.mk 5 0 l [cst n (gk (kindT t)) t l])) := by
  obtain ⟨kt, ts, rfl⟩ := t.shape
  obtain ⟨sf, rfl, hsf⟩ := Ty.at_mk.1 hatf
  obtain ⟨af, cf, rfl⟩ := hsf.none'
  obtain ⟨st, rfl, hst⟩ := Ty.at_mk.1 hatt
  obtain ⟨at', ct, rfl⟩ := hst.shape
  generalize hnt : ts.length = nt at *
  have hk1 : (kt == 1) = false := by rw [beq_eq_false_iff_ne]; exact hk
  have hkk : ((1 : Int) == kt) = false := by rw [beq_eq_false_iff_ne]; exact fun e => hk (show kt = 1 from e.symm)
  have hkx : kindT (.mk kt ts) = kt := rfl
  have hb0 : Below w.heap.size w (((w.alloc (Obj.cells #[.int .i64 1, .slice af 0 cf] 25)).alloc (Obj.cells #[.int .i64 kt, .slice at' nt ct] 25)).alloc (Obj.cells #[.int .i64 0, .int .i64 0, .int .i64 0, .slice none 0 0] 30)) := (((Below.refl _ _).alloc (Nat.le_refl _) _).alloc (by simp) _).alloc (by simp; omega) _
  have hs0 : ((((w.alloc (Obj.cells #[.int .i64 1, .slice af 0 cf] 25)).alloc (Obj.cells #[.int .i64 kt, .slice at' nt ct] 25)).alloc (Obj.cells #[.int .i64 0, .int .i64 0, .int .i64 0, .slice none 0 0] 30))).heap.size = w.heap.size + 1 + 1 + 1 := by simp
  obtain ⟨bF, bG, bZ⟩ := three3 (Below.refl ((((w.alloc (Obj.cells #[.int .i64 1, .slice af 0 cf] 25)).alloc (Obj.cells #[.int .i64 kt, .slice at' nt ct] 25)).alloc (Obj.cells #[.int .i64 0, .int .i64 0, .int .i64 0, .slice none 0 0] 30))).heap.size (((w.alloc (Obj.cells #[.int .i64 1, .slice af 0 cf] 25)).alloc (Obj.cells #[.int .i64 kt, .slice at' nt ct] 25)).alloc (Obj.cells #[.int .i64 0, .int .i64 0, .int .i64 0, .slice none 0 0] 30)))
  have x0 : ((((w.alloc (Obj.cells #[.int .i64 1, .slice af 0 cf] 25)).alloc (Obj.cells #[.int .i64 kt, .slice at' nt ct] 25)).alloc (Obj.cells #[.int .i64 0, .int .i64 0, .int .i64 0, .slice none 0 0] 30))).cell? ⟨w.heap.size, 0, none⟩ = some (.int .i64 1) := by rw [cell_of_block bF]; rfl
  have x1 : ((((w.alloc (Obj.cells #[.int .i64 1, .slice af 0 cf] 25)).alloc (Obj.cells #[.int .i64 kt, .slice at' nt ct] 25)).alloc (Obj.cells #[.int .i64 0, .int .i64 0, .int .i64 0, .slice none 0 0] 30))).cell? ⟨w.heap.size, 1, none⟩ = some (.slice af 0 cf) := by rw [cell_of_block bF]; rfl
  have y0 : ((((w.alloc (Obj.cells #[.int .i64 1, .slice af 0 cf] 25)).alloc (Obj.cells #[.int .i64 kt, .slice at' nt ct] 25)).alloc (Obj.cells #[.int .i64 0, .int .i64 0, .int .i64 0, .slice none 0 0] 30))).cell? ⟨w.heap.size + 1, 0, none⟩ = some (.int .i64 kt) := by rw [cell_of_block bG]; rfl
  have y1 : ((((w.alloc (Obj.cells #[.int .i64 1, .slice af 0 cf] 25)).alloc (Obj.cells #[.int .i64 kt, .slice at' nt ct] 25)).alloc (Obj.cells #[.int .i64 0, .int .i64 0, .int .i64 0, .slice none 0 0] 30))).cell? ⟨w.heap.size + 1, 1, none⟩ = some (.slice at' nt ct) := by rw [cell_of_block bG]; rfl
  have HM := hid (fun (w' : World) (h : Below ((((w.alloc (Obj.cells #[.int .i64 1, .slice af 0 cf] 25)).alloc (Obj.cells #[.int .i64 kt, .slice at' nt ct] 25)).alloc (Obj.cells #[.int .i64 0, .int .i64 0, .int .i64 0, .slice none 0 0] 30))).heap.size (((w.alloc (Obj.cells #[.int .i64 1, .slice af 0 cf] 25)).alloc (Obj.cells #[.int .i64 kt, .slice at' nt ct] 25)).alloc (Obj.cells #[.int .i64 0, .int .i64 0, .int .i64 0, .slice none 0 0] 30)) w') => (h.block (w.heap.size + 1 + 1) (by omega)).trans bZ)
  have HB := hid hb0
  have HZ0 := hid hs0
  have HS0 := hid (show ∀ w', Below ((((w.alloc (Obj.cells #[.int .i64 1, .slice af 0 cf] 25)).alloc (Obj.cells #[.int .i64 kt, .slice at' nt ct] 25)).alloc (Obj.cells #[.int .i64 0, .int .i64 0, .int .i64 0, .slice none 0 0] 30))).heap.size (((w.alloc (Obj.cells #[.int .i64 1, .slice af 0 cf] 25)).alloc (Obj.cells #[.int .i64 kt, .slice at' nt ct] 25)).alloc (Obj.cells #[.int .i64 0, .int .i64 0, .int .i64 0, .slice none 0 0] 30)) w' → (fun w' => w'.cell? ⟨w.heap.size, 0, none⟩ = some (.int .i64 1) ∧ w'.cell? ⟨w.heap.size, 1, none⟩ = some (.slice af 0 cf) ∧ w'.cell? ⟨w.heap.size + 1, 0, none⟩ = some (.int .i64 kt) ∧ w'.cell? ⟨w.heap.size + 1, 1, none⟩ = some (.slice at' nt ct)) w' from fun w' h => ⟨cell_keep x0 h, cell_keep x1 h, cell_keep y0 h, cell_keep y1 h⟩)
  have HX := hid (hatt.below hb0)
  have HWF := hid (shp_wf hs)
  have HCN := hid (shp_cnt30 hs hd)
  have HSG := hid (shp_gk hs)
  have HCG := hid (cons_gk (shp_wf hs))
  have HS := hid hs
  have HKB := hid (wf_kind (shp_wf hs))
  have HIH := hid ih
  have HFU := hid (show 2 * d ≤ n + 1 from hn)
  rw [hkx] at *
  clear ih hb0 hs0 bF bG bZ hatf hatt hs hk hn hsf hst hnt hkx
  go_enter Try.func42, Try.ntmps42
  go_wp2_with fail
  refine regionL (s := 8) (S0 := (fun w' => w'.cell? ⟨w.heap.size, 0, none⟩ = some (.int .i64 1) ∧ w'.cell? ⟨w.heap.size, 1, none⟩ = some (.slice af 0 cf) ∧ w'.cell? ⟨w.heap.size + 1, 0, none⟩ = some (.int .i64 kt) ∧ w'.cell? ⟨w.heap.size + 1, 1, none⟩ = some (.slice at' nt ct))) (S1 := (fun _ => True)) (by kernel_rfl) (HS0.out _ (below_drew _)) (trivial) (fun hS0 => ?_)
  refine takeL0 (i := 0) (v := ?vq1) rfl rfl (by kernel_rfl) (by kernel_rfl) (by kernel_rfl) (by decide) (by kernel_rfl) (by kernel_rfl) (fun _ _ _ h => h) (Or.inl ⟨by rfl, ?hyq1⟩) (by assumption) ?_
  case hyq1 => (intro w hSw; (try dsimp only at hSw); go_simp; (try with_reducible rfl))
  try simp only [Act.put, List.setIfInBounds_toArray, List.set_cons_zero, List.set_cons_succ]
  refine takeL0 (i := 1) (v := ?vq2) rfl rfl (by kernel_rfl) (by kernel_rfl) (by kernel_rfl) (by decide) (by kernel_rfl) (by kernel_rfl) (fun _ _ _ h => h) (Or.inl ⟨by rfl, ?hyq2⟩) (by assumption) ?_
  case hyq2 => (intro w hSw; (try dsimp only at hSw); go_simp; (try with_reducible rfl))
  try simp only [Act.put, List.setIfInBounds_toArray, List.set_cons_zero, List.set_cons_succ]
  refine takeL0 (i := 3) (v := ?vq3) rfl rfl (by kernel_rfl) (by kernel_rfl) (by kernel_rfl) (by decide) (by kernel_rfl) (by kernel_rfl) (fun _ _ _ h => h) (Or.inl ⟨by rfl, ?hyq3⟩) (by assumption) ?_
  case hyq3 => (intro w hSw; (try dsimp only at hSw); go_simp; (try with_reducible rfl))
  try simp only [Act.put, List.setIfInBounds_toArray, List.set_cons_zero, List.set_cons_succ]
  refine takeL0 (i := 4) (v := ?vq4) rfl rfl (by kernel_rfl) (by kernel_rfl) (by kernel_rfl) (by decide) (by kernel_rfl) (by kernel_rfl) (fun _ _ _ h => h) (Or.inl ⟨by rfl, ?hyq4⟩) (by assumption) ?_
  case hyq4 => (intro w hSw; (try dsimp only at hSw); go_simp; (try with_reducible rfl))
  try simp only [Act.put, List.setIfInBounds_toArray, List.set_cons_zero, List.set_cons_succ]
  refine readyL (rs := [2]) (by kernel_rfl) (by simp) ?_
  refine AllReadyL.cons rfl (fun K hK => ?_) AllReadyL.nil
  go_simp
  refine (ground6_from (W0 := (((w.alloc (Obj.cells #[.int .i64 1, .slice af 0 cf] 25)).alloc (Obj.cells #[.int .i64 kt, .slice at' nt ct] 25)).alloc (Obj.cells #[.int .i64 0, .int .i64 0, .int .i64 0, .slice none 0 0] 30))) (below_drew _) HX.out HWF.out HCN.out).mono ?_
  rintro e w1 ⟨⟨v1, g1, rfl, hat1, hf1, hb1⟩, hU1⟩
  obtain ⟨kg, ng, ag, cg, rfl⟩ := hat1.agg
  have hB1 := below_trans hU1 hb1
  refine hK.out _ _ ?_ (fun hS1 => ?_)
  · exact ⟨trivial, fun _ => HS0.out _ hB1⟩
  clear hK K hS0
  try simp only [Act.put, List.setIfInBounds_toArray, List.set_cons_zero, List.set_cons_succ]
  refine readyL (rs := [5]) (by kernel_rfl) (by simp) ?_
  refine AllReadyL.cons rfl (fun K hK => ?_) AllReadyL.nil
  go_simp
  refine (HIH.out (gk kt) (.mk kt ts) l d _ _ _ _ w1 (.inr ⟨HFU.out, rfl⟩) hd HSG.out HS.out HCG.out.2 hl1 hl2 hat1 (HX.out.below hB1)).mono ?_
  rintro e w2 ⟨v2, g2, rfl, hat2, hf2, hb2⟩
  obtain ⟨p0, p1, p2, pn, pa, pc, rfl⟩ := hat2.agg
  have hB2 := below_trans hB1 hb2
  refine hK.out _ _ ?_ (fun hS2 => ?_)
  · exact ⟨trivial, fun _ => HS0.out _ hB2⟩
  clear hK K hS1
  try simp only [Act.put, List.setIfInBounds_toArray, List.set_cons_zero, List.set_cons_succ]
  refine readyL (rs := [6]) (by kernel_rfl) (by simp) ?_
  refine AllReadyL.cons rfl (fun K hK => ?_) AllReadyL.nil
  go_simp
  refine hK.out _ _ ?_ (fun hS3 => ?_)
  · exact ⟨trivial, fun _ => HS0.out _ (hB2.alloc hB2.size (Obj.cells #[.int .i64 p0, .int .i64 p1, .int .i64 p2, .slice pa pn pc] 30))⟩
  clear hK K hS2
  try simp only [Act.put, List.setIfInBounds_toArray, List.set_cons_zero, List.set_cons_succ]
  refine readyL (rs := [7]) (by kernel_rfl) (by simp) ?_
  refine AllReadyL.cons rfl (fun K hK => ?_) AllReadyL.nil
  go_simp
  refine hK.out _ _ ?_ (fun hS4 => ?_)
  · exact ⟨trivial, fun _ => HS0.out _ (hB2.alloc hB2.size (Obj.cells #[.int .i64 p0, .int .i64 p1, .int .i64 p2, .slice pa pn pc] 30))⟩
  clear hK K hS3
  try simp only [Act.put, List.setIfInBounds_toArray, List.set_cons_zero, List.set_cons_succ]
  refine readyL (rs := [8]) (by kernel_rfl) (by simp) ?_
  refine AllReadyL.cons rfl (fun K hK => ?_) AllReadyL.nil
  have bM := HM.out _ (hB2.alloc hB2.size (Obj.cells #[.int .i64 p0, .int .i64 p1, .int .i64 p2, .slice pa pn pc] 30))
  have z0 := (cell_of_block (o := 0) bM).trans (show _ = some (.int .i64 0) from rfl)
  have z1 := (cell_of_block (o := 1) bM).trans (show _ = some (.int .i64 0) from rfl)
  have z2 := (cell_of_block (o := 2) bM).trans (show _ = some (.int .i64 0) from rfl)
  have z3 := (cell_of_block (o := 3) bM).trans (show _ = some (.slice none 0 0) from rfl)
  have yz := fun o => frozen_of_block (o := o) bM
  go_simp
  refine hK.out _ _ ?_ (fun hS5 => ?_)
  · exact ⟨trivial, fun h => absurd (h.symm.trans (show _ = true by kernel_rfl)) (by decide)⟩
  clear hK K hS4
  try simp only [Act.put, List.setIfInBounds_toArray, List.set_cons_zero, List.set_cons_succ]
  refine doneL (by kernel_rfl) ?_ _
  have FIN := hid (close4 (w := w) (wF := (w2.alloc (Obj.cells #[.int .i64 p0, .int .i64 p1, .int .i64 p2, .slice pa pn pc] 30))) (M := w.heap.size + 1 + 1) (lo := w1.heap.size) (co_one (k := 5) (g := 0) (l := l) (alloc_new w2 (Obj.cells #[.int .i64 p0, .int .i64 p1, .int .i64 p2, .slice pa pn pc] 30)) (hat2.below ((Below.refl w2.heap.size w2).alloc (Nat.le_refl _) (Obj.cells #[.int .i64 p0, .int .i64 p1, .int .i64 p2, .slice pa pn pc] 30)))) (Fresh.row (hf2.below ((Below.refl w2.heap.size w2).alloc (Nat.le_refl _) (Obj.cells #[.int .i64 p0, .int .i64 p1, .int .i64 p2, .slice pa pn pc] 30))) (alloc_new w2 (Obj.cells #[.int .i64 p0, .int .i64 p1, .int .i64 p2, .slice pa pn pc] 30)) hb2.size (fun x hx => (hf2.2 x hx).2.1)) (by omega) (by have := HZ0.out; have := hB1.size; omega) (below_trans HB.out (hB2.alloc hB2.size (Obj.cells #[.int .i64 p0, .int .i64 p1, .int .i64 p2, .slice pa pn pc] 30))))
  simp only [put4, Nat.zero_add] at FIN
  go_wp2_with fail
  exact bodyPost_ret (v := .agg #[.int .i64 5, .int .i64 0, .int .i64 l, .slice (some ⟨w2.heap.size, 0, none⟩) 1 1]) (by simp [results, Try.results42, go_sem, z0, z1, z2, z3]) rfl FIN.out
set_option maxRecDepth 100000 in
set_option maxHeartbeats 1000000 in
theorem l6Cast_two4 (n : Nat) (ih : l6CastC n) (f1 f2 t1 t2 : Ty) (l : Int) (d : Nat) (vf vt : Value) (ff ft : List Nat) (w : World) (hn : 2 * d ≤ n) (hd : d ≤ 4) (hf1 : shp d f1 = true) (hf2 : shp d f2 = true) (ht1 : shp d t1 = true) (ht2 : shp d t2 = true) (hc1 : cons f1 t1 = true) (hc2 : cons f2 t2 = true) (hl1 : -99 ≤ l) (hl2 : l ≤ 99) (hatf : (Ty.mk 4 [f1, f2]).At w vf ff) (hatt : (Ty.mk 4 [t1, t2]).At w vt ft) :
    Calls Try.prog 42 #[vf, vt, .int .i64 l] w (MadeC w (.mk 2 0 0 [cst n t1 f1 (-l), cst n f2 t2 l])) := by
  obtain ⟨kf, hkf⟩ : ∃ kf : Int, kf = 4 := ⟨_, rfl⟩
  obtain ⟨kt, hkt⟩ : ∃ kt : Int, kt = 4 := ⟨_, rfl⟩
  rw [← hkf] at hatf
  rw [← hkt] at hatt
  obtain ⟨sf, rfl, hsf⟩ := Ty.at_mk.1 hatf
  obtain ⟨st, rfl, hst⟩ := Ty.at_mk.1 hatt
  obtain ⟨bf, of, cf, k1, n1, a1, c1, k2, n2, a2, c2, g1, g2, rfl, hbf, d0, d1, d2, d3, hX1, hX2, _, hcf⟩ := hsf.two
  obtain ⟨bt, ot, ct, k3, n3, a3, c3, k4, n4, a4, c4, g3, g4, rfl, hbt, e0, e1, e2, e3, hY1, hY2, _, hct⟩ := hst.two
  have q1 : (kf == 1) = false := by rw [hkf]; rfl
  have q2 : (kt == 1) = false := by rw [hkt]; rfl
  have q3 : (kf == 4) = true := by rw [hkf]; rfl
  have q4 : (kf == 5) = false := by rw [hkf]; rfl
  have q5 : (kf == kt) = true := by rw [hkf, hkt]; rfl
  have HWR := hid (show IntKind.i64.wrap (-l) = -l by rw [IntKind.wrap_i64]; omega)
  have hb0 : Below w.heap.size w (((w.alloc (Obj.cells #[.int .i64 kf, .slice (some ⟨bf, of, none⟩) 2 cf] 25)).alloc (Obj.cells #[.int .i64 kt, .slice (some ⟨bt, ot, none⟩) 2 ct] 25)).alloc (Obj.cells #[.int .i64 0, .int .i64 0, .int .i64 0, .slice none 0 0] 30)) := (((Below.refl _ _).alloc (Nat.le_refl _) _).alloc (by simp) _).alloc (by simp; omega) _
  have hs0 : ((((w.alloc (Obj.cells #[.int .i64 kf, .slice (some ⟨bf, of, none⟩) 2 cf] 25)).alloc (Obj.cells #[.int .i64 kt, .slice (some ⟨bt, ot, none⟩) 2 ct] 25)).alloc (Obj.cells #[.int .i64 0, .int .i64 0, .int .i64 0, .slice none 0 0] 30))).heap.size = w.heap.size + 1 + 1 + 1 := by simp
  obtain ⟨bF, bG, bZ⟩ := three3 (Below.refl ((((w.alloc (Obj.cells #[.int .i64 kf, .slice (some ⟨bf, of, none⟩) 2 cf] 25)).alloc (Obj.cells #[.int .i64 kt, .slice (some ⟨bt, ot, none⟩) 2 ct] 25)).alloc (Obj.cells #[.int .i64 0, .int .i64 0, .int .i64 0, .slice none 0 0] 30))).heap.size (((w.alloc (Obj.cells #[.int .i64 kf, .slice (some ⟨bf, of, none⟩) 2 cf] 25)).alloc (Obj.cells #[.int .i64 kt, .slice (some ⟨bt, ot, none⟩) 2 ct] 25)).alloc (Obj.cells #[.int .i64 0, .int .i64 0, .int .i64 0, .slice none 0 0] 30)))
  have x0 : ((((w.alloc (Obj.cells #[.int .i64 kf, .slice (some ⟨bf, of, none⟩) 2 cf] 25)).alloc (Obj.cells #[.int .i64 kt, .slice (some ⟨bt, ot, none⟩) 2 ct] 25)).alloc (Obj.cells #[.int .i64 0, .int .i64 0, .int .i64 0, .slice none 0 0] 30))).cell? ⟨w.heap.size, 0, none⟩ = some (.int .i64 kf) := by rw [cell_of_block bF]; rfl
  have x1 : ((((w.alloc (Obj.cells #[.int .i64 kf, .slice (some ⟨bf, of, none⟩) 2 cf] 25)).alloc (Obj.cells #[.int .i64 kt, .slice (some ⟨bt, ot, none⟩) 2 ct] 25)).alloc (Obj.cells #[.int .i64 0, .int .i64 0, .int .i64 0, .slice none 0 0] 30))).cell? ⟨w.heap.size, 1, none⟩ = some (.slice (some ⟨bf, of, none⟩) 2 cf) := by rw [cell_of_block bF]; rfl
  have y0 : ((((w.alloc (Obj.cells #[.int .i64 kf, .slice (some ⟨bf, of, none⟩) 2 cf] 25)).alloc (Obj.cells #[.int .i64 kt, .slice (some ⟨bt, ot, none⟩) 2 ct] 25)).alloc (Obj.cells #[.int .i64 0, .int .i64 0, .int .i64 0, .slice none 0 0] 30))).cell? ⟨w.heap.size + 1, 0, none⟩ = some (.int .i64 kt) := by rw [cell_of_block bG]; rfl
  have y1 : ((((w.alloc (Obj.cells #[.int .i64 kf, .slice (some ⟨bf, of, none⟩) 2 cf] 25)).alloc (Obj.cells #[.int .i64 kt, .slice (some ⟨bt, ot, none⟩) 2 ct] 25)).alloc (Obj.cells #[.int .i64 0, .int .i64 0, .int .i64 0, .slice none 0 0] 30))).cell? ⟨w.heap.size + 1, 1, none⟩ = some (.slice (some ⟨bt, ot, none⟩) 2 ct) := by rw [cell_of_block bG]; rfl
  have HM := hid (fun (w' : World) (h : Below ((((w.alloc (Obj.cells #[.int .i64 kf, .slice (some ⟨bf, of, none⟩) 2 cf] 25)).alloc (Obj.cells #[.int .i64 kt, .slice (some ⟨bt, ot, none⟩) 2 ct] 25)).alloc (Obj.cells #[.int .i64 0, .int .i64 0, .int .i64 0, .slice none 0 0] 30))).heap.size (((w.alloc (Obj.cells #[.int .i64 kf, .slice (some ⟨bf, of, none⟩) 2 cf] 25)).alloc (Obj.cells #[.int .i64 kt, .slice (some ⟨bt, ot, none⟩) 2 ct] 25)).alloc (Obj.cells #[.int .i64 0, .int .i64 0, .int .i64 0, .slice none 0 0] 30)) w') => (h.block (w.heap.size + 1 + 1) (by omega)).trans bZ)
  have HB := hid hb0
  have HZ0 := hid hs0
  have HS0 := hid (show ∀ w', Below ((((w.alloc (Obj.cells #[.int .i64 kf, .slice (some ⟨bf, of, none⟩) 2 cf] 25)).alloc (Obj.cells #[.int .i64 kt, .slice (some ⟨bt, ot, none⟩) 2 ct] 25)).alloc (Obj.cells #[.int .i64 0, .int .i64 0, .int .i64 0, .slice none 0 0] 30))).heap.size (((w.alloc (Obj.cells #[.int .i64 kf, .slice (some ⟨bf, of, none⟩) 2 cf] 25)).alloc (Obj.cells #[.int .i64 kt, .slice (some ⟨bt, ot, none⟩) 2 ct] 25)).alloc (Obj.cells #[.int .i64 0, .int .i64 0, .int .i64 0, .slice none 0 0] 30)) w' → (fun w' => w'.cell? ⟨w.heap.size, 0, none⟩ = some (.int .i64 kf) ∧ w'.cell? ⟨w.heap.size, 1, none⟩ = some (.slice (some ⟨bf, of, none⟩) 2 cf) ∧ w'.cell? ⟨w.heap.size + 1, 0, none⟩ = some (.int .i64 kt) ∧ w'.cell? ⟨w.heap.size + 1, 1, none⟩ = some (.slice (some ⟨bt, ot, none⟩) 2 ct) ∧ w'.cell? ⟨bf, of, none⟩ = some (.int .i64 k1) ∧ w'.cell? ⟨bf, of + 1, none⟩ = some (.slice a1 n1 c1) ∧ w'.cell? ⟨bf, of + 2, none⟩ = some (.int .i64 k2) ∧ w'.cell? ⟨bf, of + 2 + 1, none⟩ = some (.slice a2 n2 c2) ∧ w'.cell? ⟨bt, ot, none⟩ = some (.int .i64 k3) ∧ w'.cell? ⟨bt, ot + 1, none⟩ = some (.slice a3 n3 c3) ∧ w'.cell? ⟨bt, ot + 2, none⟩ = some (.int .i64 k4) ∧ w'.cell? ⟨bt, ot + 2 + 1, none⟩ = some (.slice a4 n4 c4)) w' from fun w' h => ⟨cell_keep x0 h, cell_keep x1 h, cell_keep y0 h, cell_keep y1 h, cell_keep (cell_keep d0 hb0) h, cell_keep (cell_keep d1 hb0) h, cell_keep (cell_keep d2 hb0) h, cell_keep (cell_keep d3 hb0) h, cell_keep (cell_keep e0 hb0) h, cell_keep (cell_keep e1 hb0) h, cell_keep (cell_keep e2 hb0) h, cell_keep (cell_keep e3 hb0) h⟩)
  have H1 := hid (And.intro (hX1.below hb0) (And.intro (hX2.below hb0) (And.intro (hY1.below hb0) (hY2.below hb0))))
  have HP := hid (And.intro hf1 (And.intro hf2 (And.intro ht1 (And.intro ht2 (And.intro (cons_symm2 hc1) (And.intro hc1 hc2))))))
  have HIH := hid ih
  have HFU := hid (show fuelOk n d f1 t1 ∧ fuelOk n d t1 f1 ∧ fuelOk n d f2 t2 from ⟨.inl hn, .inl hn, .inl hn⟩)
  clear ih hb0 hs0 bF bG bZ hatf hatt hn hsf hst hX1 hX2 hY1 hY2 d0 d1 d2 d3 e0 e1 e2 e3 hf1 hf2 ht1 ht2 hc1 hc2 hkf hkt x0 x1 y0 y1
  have hS00 := HS0.out _ (Below.refl _ _)
  obtain ⟨x0, x1, y0, y1, d0, d1, d2, d3, e0, e1, e2, e3⟩ := hS00
  go_enter Try.func42, Try.ntmps42
  go_wp2_with fail
  refine regionL (s := 23) (S0 := (fun w' => w'.cell? ⟨w.heap.size, 0, none⟩ = some (.int .i64 kf) ∧ w'.cell? ⟨w.heap.size, 1, none⟩ = some (.slice (some ⟨bf, of, none⟩) 2 cf) ∧ w'.cell? ⟨w.heap.size + 1, 0, none⟩ = some (.int .i64 kt) ∧ w'.cell? ⟨w.heap.size + 1, 1, none⟩ = some (.slice (some ⟨bt, ot, none⟩) 2 ct) ∧ w'.cell? ⟨bf, of, none⟩ = some (.int .i64 k1) ∧ w'.cell? ⟨bf, of + 1, none⟩ = some (.slice a1 n1 c1) ∧ w'.cell? ⟨bf, of + 2, none⟩ = some (.int .i64 k2) ∧ w'.cell? ⟨bf, of + 2 + 1, none⟩ = some (.slice a2 n2 c2) ∧ w'.cell? ⟨bt, ot, none⟩ = some (.int .i64 k3) ∧ w'.cell? ⟨bt, ot + 1, none⟩ = some (.slice a3 n3 c3) ∧ w'.cell? ⟨bt, ot + 2, none⟩ = some (.int .i64 k4) ∧ w'.cell? ⟨bt, ot + 2 + 1, none⟩ = some (.slice a4 n4 c4))) (S1 := (fun _ => True)) (by kernel_rfl) (HS0.out _ (below_drew _)) (trivial) (fun hS0 => ?_)
  refine takeL0 (i := 0) (v := ?vq1) rfl rfl (by kernel_rfl) (by kernel_rfl) (by kernel_rfl) (by decide) (by kernel_rfl) (by kernel_rfl) (fun _ _ _ h => h) (Or.inl ⟨by rfl, ?hyq1⟩) (by assumption) ?_
  case hyq1 => (intro w hSw; (try dsimp only at hSw); go_simp; (try with_reducible rfl))
  try simp only [Act.put, List.setIfInBounds_toArray, List.set_cons_zero, List.set_cons_succ]
  refine takeL0 (i := 1) (v := ?vq2) rfl rfl (by kernel_rfl) (by kernel_rfl) (by kernel_rfl) (by decide) (by kernel_rfl) (by kernel_rfl) (fun _ _ _ h => h) (Or.inl ⟨by rfl, ?hyq2⟩) (by assumption) ?_
  case hyq2 => (intro w hSw; (try dsimp only at hSw); go_simp; (try with_reducible rfl))
  try simp only [Act.put, List.setIfInBounds_toArray, List.set_cons_zero, List.set_cons_succ]
  refine takeL0 (i := 2) (v := ?vq3) rfl rfl (by kernel_rfl) (by kernel_rfl) (by kernel_rfl) (by decide) (by kernel_rfl) (by kernel_rfl) (fun _ _ _ h => h) (Or.inl ⟨by rfl, ?hyq3⟩) (by assumption) ?_
  case hyq3 => (intro w hSw; (try dsimp only at hSw); go_simp; (try with_reducible rfl))
  try simp only [Act.put, List.setIfInBounds_toArray, List.set_cons_zero, List.set_cons_succ]
  refine takeL0 (i := 3) (v := ?vq4) rfl rfl (by kernel_rfl) (by kernel_rfl) (by kernel_rfl) (by decide) (by kernel_rfl) (by kernel_rfl) (fun _ _ _ h => h) (Or.inl ⟨by rfl, ?hyq4⟩) (by assumption) ?_
  case hyq4 => (intro w hSw; (try dsimp only at hSw); go_simp; (try with_reducible rfl))
  try simp only [Act.put, List.setIfInBounds_toArray, List.set_cons_zero, List.set_cons_succ]
  refine takeL0 (i := 4) (v := ?vq5) rfl rfl (by kernel_rfl) (by kernel_rfl) (by kernel_rfl) (by decide) (by kernel_rfl) (by kernel_rfl) (fun _ _ _ h => h) (Or.inl ⟨by rfl, ?hyq5⟩) (by assumption) ?_
  case hyq5 => (intro w hSw; (try dsimp only at hSw); go_simp; (try with_reducible rfl))
  try simp only [Act.put, List.setIfInBounds_toArray, List.set_cons_zero, List.set_cons_succ]
  refine takeL0 (i := 5) (v := ?vq6) rfl rfl (by kernel_rfl) (by kernel_rfl) (by kernel_rfl) (by decide) (by kernel_rfl) (by kernel_rfl) (fun _ _ _ h => h) (Or.inl ⟨by rfl, ?hyq6⟩) (by assumption) ?_
  case hyq6 => (intro w hSw; (try dsimp only at hSw); go_simp; (try with_reducible rfl))
  try simp only [Act.put, List.setIfInBounds_toArray, List.set_cons_zero, List.set_cons_succ]
  refine takeL0 (i := 6) (v := ?vq7) rfl rfl (by kernel_rfl) (by kernel_rfl) (by kernel_rfl) (by decide) (by kernel_rfl) (by kernel_rfl) (fun _ _ _ h => h) (Or.inl ⟨by rfl, ?hyq7⟩) (by assumption) ?_
  case hyq7 => (intro w hSw; (try dsimp only at hSw); go_simp; (try with_reducible rfl))
  try simp only [Act.put, List.setIfInBounds_toArray, List.set_cons_zero, List.set_cons_succ]
  refine takeL0 (i := 7) (v := ?vq8) rfl rfl (by kernel_rfl) (by kernel_rfl) (by kernel_rfl) (by decide) (by kernel_rfl) (by kernel_rfl) (fun _ _ _ h => h) (Or.inl ⟨by rfl, ?hyq8⟩) (by assumption) ?_
  case hyq8 => (intro w hSw; (try dsimp only at hSw); go_simp; (try with_reducible rfl))
  try simp only [Act.put, List.setIfInBounds_toArray, List.set_cons_zero, List.set_cons_succ]
  refine takeL0 (i := 8) (v := ?vq9) rfl rfl (by kernel_rfl) (by kernel_rfl) (by kernel_rfl) (by decide) (by kernel_rfl) (by kernel_rfl) (fun _ _ _ h => h) (Or.inl ⟨by rfl, ?hyq9⟩) (by assumption) ?_
  case hyq9 => (intro w hSw; (try dsimp only at hSw); go_simp; (try with_reducible rfl))
  try simp only [Act.put, List.setIfInBounds_toArray, List.set_cons_zero, List.set_cons_succ]
  refine takeL0 (i := 9) (v := ?vq10) rfl rfl (by kernel_rfl) (by kernel_rfl) (by kernel_rfl) (by decide) (by kernel_rfl) (by kernel_rfl) (fun _ _ _ h => h) (Or.inl ⟨by rfl, ?hyq10⟩) (by assumption) ?_
  case hyq10 => (intro w hSw; (try dsimp only at hSw); go_simp; (try with_reducible rfl))
  try simp only [Act.put, List.setIfInBounds_toArray, List.set_cons_zero, List.set_cons_succ]
  refine takeL0 (i := 11) (v := ?vq11) rfl rfl (by kernel_rfl) (by kernel_rfl) (by kernel_rfl) (by decide) (by kernel_rfl) (by kernel_rfl) (fun _ _ _ h => h) (Or.inl ⟨by rfl, ?hyq11⟩) (by assumption) ?_
  case hyq11 => (intro w hSw; (try dsimp only at hSw); go_simp; (try with_reducible rfl))
  try simp only [Act.put, List.setIfInBounds_toArray, List.set_cons_zero, List.set_cons_succ]
  refine takeL0 (i := 12) (v := ?vq12) rfl rfl (by kernel_rfl) (by kernel_rfl) (by kernel_rfl) (by decide) (by kernel_rfl) (by kernel_rfl) (fun _ _ _ h => h) (Or.inl ⟨by rfl, ?hyq12⟩) (by assumption) ?_
  case hyq12 => (intro w hSw; (try dsimp only at hSw); go_simp; (try with_reducible rfl))
  try simp only [Act.put, List.setIfInBounds_toArray, List.set_cons_zero, List.set_cons_succ]
  refine takeL0 (i := 13) (v := ?vq13) rfl rfl (by kernel_rfl) (by kernel_rfl) (by kernel_rfl) (by decide) (by kernel_rfl) (by kernel_rfl) (fun _ _ _ h => h) (Or.inl ⟨by rfl, ?hyq13⟩) (by assumption) ?_
  case hyq13 => (intro w hSw; (try dsimp only at hSw); go_simp; (try with_reducible rfl))
  try simp only [Act.put, List.setIfInBounds_toArray, List.set_cons_zero, List.set_cons_succ]
  refine takeL0 (i := 14) (v := ?vq14) rfl rfl (by kernel_rfl) (by kernel_rfl) (by kernel_rfl) (by decide) (by kernel_rfl) (by kernel_rfl) (fun _ _ _ h => h) (Or.inl ⟨by rfl, ?hyq14⟩) (by assumption) ?_
  case hyq14 => (intro w hSw; (try dsimp only at hSw); go_simp; (try with_reducible rfl))
  try simp only [Act.put, List.setIfInBounds_toArray, List.set_cons_zero, List.set_cons_succ]
  refine takeL0 (i := 15) (v := ?vq15) rfl rfl (by kernel_rfl) (by kernel_rfl) (by kernel_rfl) (by decide) (by kernel_rfl) (by kernel_rfl) (fun _ _ _ h => h) (Or.inl ⟨by rfl, ?hyq15⟩) (by assumption) ?_
  case hyq15 => (intro w hSw; (try dsimp only at hSw); go_simp; (try with_reducible rfl))
  try simp only [Act.put, List.setIfInBounds_toArray, List.set_cons_zero, List.set_cons_succ]
  refine takeL0 (i := 16) (v := ?vq16) rfl rfl (by kernel_rfl) (by kernel_rfl) (by kernel_rfl) (by decide) (by kernel_rfl) (by kernel_rfl) (fun _ _ _ h => h) (Or.inl ⟨by rfl, ?hyq16⟩) (by assumption) ?_
  case hyq16 => (intro w hSw; (try dsimp only at hSw); go_simp; (try with_reducible rfl))
  try simp only [Act.put, List.setIfInBounds_toArray, List.set_cons_zero, List.set_cons_succ]
  refine takeL0 (i := 17) (v := ?vq17) rfl rfl (by kernel_rfl) (by kernel_rfl) (by kernel_rfl) (by decide) (by kernel_rfl) (by kernel_rfl) (fun _ _ _ h => h) (Or.inl ⟨by rfl, ?hyq17⟩) (by assumption) ?_
  case hyq17 => (intro w hSw; (try dsimp only at hSw); go_simp; (try with_reducible rfl))
  try simp only [Act.put, List.setIfInBounds_toArray, List.set_cons_zero, List.set_cons_succ]
  refine takeL0 (i := 18) (v := ?vq18) rfl rfl (by kernel_rfl) (by kernel_rfl) (by kernel_rfl) (by decide) (by kernel_rfl) (by kernel_rfl) (fun _ _ _ h => h) (Or.inl ⟨by rfl, ?hyq18⟩) (by assumption) ?_
  case hyq18 => (intro w hSw; (try dsimp only at hSw); go_simp; (try with_reducible rfl))
  try simp only [Act.put, List.setIfInBounds_toArray, List.set_cons_zero, List.set_cons_succ]
  refine takeL0 (i := 19) (v := ?vq19) rfl rfl (by kernel_rfl) (by kernel_rfl) (by kernel_rfl) (by decide) (by kernel_rfl) (by kernel_rfl) (fun _ _ _ h => h) (Or.inl ⟨by rfl, ?hyq19⟩) (by assumption) ?_
  case hyq19 => (intro w hSw; (try dsimp only at hSw); go_simp; (try with_reducible rfl))
  try simp only [Act.put, List.setIfInBounds_toArray, List.set_cons_zero, List.set_cons_succ]
  refine readyL (rs := [10]) (by kernel_rfl) (by simp) ?_
  refine AllReadyL.cons rfl (fun K hK => ?_) AllReadyL.nil
  go_simp
  rw [HWR.out]
  refine (l6Cast_from HIH.out (W0 := (((w.alloc (Obj.cells #[.int .i64 kf, .slice (some ⟨bf, of, none⟩) 2 cf] 25)).alloc (Obj.cells #[.int .i64 kt, .slice (some ⟨bt, ot, none⟩) 2 ct] 25)).alloc (Obj.cells #[.int .i64 0, .int .i64 0, .int .i64 0, .slice none 0 0] 30))) (l := -l) (below_drew _) HFU.out.2.1 hd HP.out.2.2.1 HP.out.1 HP.out.2.2.2.2.1 (by omega) (by omega) H1.out.2.2.1 H1.out.1).mono ?_
  rintro e w1 ⟨⟨v1, r1, rfl, hat1, hr1, hb1⟩, hU1⟩
  obtain ⟨p0, p1, p2, pn, pa, pc, rfl⟩ := hat1.agg
  have hB1 := below_trans hU1 hb1
  have hr1n := hr1.mono hU1.size
  refine hK.out _ _ ?_ (fun hS1 => ?_)
  · exact ⟨trivial, fun _ => HS0.out _ hB1⟩
  clear hK K hS0
  try simp only [Act.put, List.setIfInBounds_toArray, List.set_cons_zero, List.set_cons_succ]
  refine readyL (rs := [20]) (by kernel_rfl) (by simp) ?_
  refine AllReadyL.cons rfl (fun K hK => ?_) AllReadyL.nil
  go_simp
  refine (HIH.out f2 t2 l d _ _ _ _ w1 HFU.out.2.2 hd HP.out.2.1 HP.out.2.2.2.1 HP.out.2.2.2.2.2.2 hl1 hl2 (H1.out.2.1.below hB1) (H1.out.2.2.2.below hB1)).mono ?_
  rintro e w2 ⟨v2, r2, rfl, hat2, hr2, hb2⟩
  obtain ⟨q0, q1, q2, qn, qa, qc, rfl⟩ := hat2.agg
  have hB2 := below_trans hB1 hb2
  refine hK.out _ _ ?_ (fun hS2 => ?_)
  · exact ⟨trivial, fun _ => HS0.out _ hB2⟩
  clear hK K hS1
  try simp only [Act.put, List.setIfInBounds_toArray, List.set_cons_zero, List.set_cons_succ]
  refine readyL (rs := [21]) (by kernel_rfl) (by simp) ?_
  refine AllReadyL.cons rfl (fun K hK => ?_) AllReadyL.nil
  go_simp
  refine hK.out _ _ ?_ (fun hS3 => ?_)
  · exact ⟨trivial, fun _ => HS0.out _ (hB2.alloc hB2.size (Obj.cells #[.int .i64 p0, .int .i64 p1, .int .i64 p2, .slice pa pn pc, .int .i64 q0, .int .i64 q1, .int .i64 q2, .slice qa qn qc] 30))⟩
  clear hK K hS2
  try simp only [Act.put, List.setIfInBounds_toArray, List.set_cons_zero, List.set_cons_succ]
  refine readyL (rs := [22]) (by kernel_rfl) (by simp) ?_
  refine AllReadyL.cons rfl (fun K hK => ?_) AllReadyL.nil
  go_simp
  refine hK.out _ _ ?_ (fun hS4 => ?_)
  · exact ⟨trivial, fun _ => HS0.out _ (hB2.alloc hB2.size (Obj.cells #[.int .i64 p0, .int .i64 p1, .int .i64 p2, .slice pa pn pc, .int .i64 q0, .int .i64 q1, .int .i64 q2, .slice qa qn qc] 30))⟩
  clear hK K hS3
  try simp only [Act.put, List.setIfInBounds_toArray, List.set_cons_zero, List.set_cons_succ]
  refine readyL (rs := [23]) (by kernel_rfl) (by simp) ?_
  refine AllReadyL.cons rfl (fun K hK => ?_) AllReadyL.nil
  have bM := HM.out _ (hB2.alloc hB2.size (Obj.cells #[.int .i64 p0, .int .i64 p1, .int .i64 p2, .slice pa pn pc, .int .i64 q0, .int .i64 q1, .int .i64 q2, .slice qa qn qc] 30))
  have z0 := (cell_of_block (o := 0) bM).trans (show _ = some (.int .i64 0) from rfl)
  have z1 := (cell_of_block (o := 1) bM).trans (show _ = some (.int .i64 0) from rfl)
  have z2 := (cell_of_block (o := 2) bM).trans (show _ = some (.int .i64 0) from rfl)
  have z3 := (cell_of_block (o := 3) bM).trans (show _ = some (.slice none 0 0) from rfl)
  have yz := fun o => frozen_of_block (o := o) bM
  go_simp
  refine hK.out _ _ ?_ (fun hS5 => ?_)
  · exact ⟨trivial, fun h => absurd (h.symm.trans (show _ = true by kernel_rfl)) (by decide)⟩
  clear hK K hS4
  try simp only [Act.put, List.setIfInBounds_toArray, List.set_cons_zero, List.set_cons_succ]
  refine doneL (by kernel_rfl) ?_ _
  have FIN := hid (close4 (w := w) (wF := w2.alloc (Obj.cells #[.int .i64 p0, .int .i64 p1, .int .i64 p2, .slice pa pn pc, .int .i64 q0, .int .i64 q1, .int .i64 q2, .slice qa qn qc] 30)) (M := w.heap.size + 1 + 1) (lo := ((((w.alloc (Obj.cells #[.int .i64 kf, .slice (some ⟨bf, of, none⟩) 2 cf] 25)).alloc (Obj.cells #[.int .i64 kt, .slice (some ⟨bt, ot, none⟩) 2 ct] 25)).alloc (Obj.cells #[.int .i64 0, .int .i64 0, .int .i64 0, .slice none 0 0] 30))).heap.size) (co_two (k := 2) (g := 0) (l := 0) (alloc_new w2 (Obj.cells #[.int .i64 p0, .int .i64 p1, .int .i64 p2, .slice pa pn pc, .int .i64 q0, .int .i64 q1, .int .i64 q2, .slice qa qn qc] 30)) ((hat1.below hb2).below ((Below.refl w2.heap.size w2).alloc (Nat.le_refl _) (Obj.cells #[.int .i64 p0, .int .i64 p1, .int .i64 p2, .slice pa pn pc, .int .i64 q0, .int .i64 q1, .int .i64 q2, .slice qa qn qc] 30))) (hat2.below ((Below.refl w2.heap.size w2).alloc (Nat.le_refl _) (Obj.cells #[.int .i64 p0, .int .i64 p1, .int .i64 p2, .slice pa pn pc, .int .i64 q0, .int .i64 q1, .int .i64 q2, .slice qa qn qc] 30)))) (Fresh.row (((hr1n.append hr2 (Nat.le_refl _) (hB1.size) hb2)).below ((Below.refl w2.heap.size w2).alloc (Nat.le_refl _) (Obj.cells #[.int .i64 p0, .int .i64 p1, .int .i64 p2, .slice pa pn pc, .int .i64 q0, .int .i64 q1, .int .i64 q2, .slice qa qn qc] 30))) (alloc_new w2 (Obj.cells #[.int .i64 p0, .int .i64 p1, .int .i64 p2, .slice pa pn pc, .int .i64 q0, .int .i64 q1, .int .i64 q2, .slice qa qn qc] 30)) hB2.size (fun x hx => ((hr1n.append hr2 (Nat.le_refl _) (hB1.size) hb2).2 x hx).2.1)) (by omega) (by have := HZ0.out; omega) (below_trans HB.out (hB2.alloc hB2.size (Obj.cells #[.int .i64 p0, .int .i64 p1, .int .i64 p2, .slice pa pn pc, .int .i64 q0, .int .i64 q1, .int .i64 q2, .slice qa qn qc] 30))))
  simp only [put4, Nat.zero_add] at FIN
  go_wp2_with fail
  exact bodyPost_ret (v := .agg #[.int .i64 2, .int .i64 0, .int .i64 0, .slice (some ⟨w2.heap.size, 0, none⟩) 2 2]) (by simp [results, Try.results42, go_sem, z0, z1, z2, z3]) rfl FIN.out
set_option maxRecDepth 100000 in
set_option maxHeartbeats 1000000 in
theorem l6Cast_two5 (n : Nat) (ih : l6CastC n) (f1 f2 t1 t2 : Ty) (l : Int) (d : Nat) (vf vt : Value) (ff ft : List Nat) (w : World) (hn : 2 * d ≤ n) (hd : d ≤ 4) (hf1 : shp d f1 = true) (hf2 : shp d f2 = true) (ht1 : shp d t1 = true) (ht2 : shp d t2 = true) (hc1 : cons f1 t1 = true) (hc2 : cons f2 t2 = true) (hl1 : -99 ≤ l) (hl2 : l ≤ 99) (hatf : (Ty.mk 5 [f1, f2]).At w vf ff) (hatt : (Ty.mk 5 [t1, t2]).At w vt ft) :
    Calls Try.prog 42 #[vf, vt, .int .i64 l] w (MadeC w (.mk 3 0 0 [cst n f1 t1 l, cst n f2 t2 l])) := by
  obtain ⟨kf, hkf⟩ : ∃ kf : Int, kf = 5 := ⟨_, rfl⟩
  obtain ⟨kt, hkt⟩ : ∃ kt : Int, kt = 5 := ⟨_, rfl⟩
  rw [← hkf] at hatf
  rw [← hkt] at hatt
  obtain ⟨sf, rfl, hsf⟩ := Ty.at_mk.1 hatf
  obtain ⟨st, rfl, hst⟩ := Ty.at_mk.1 hatt
  obtain ⟨bf, of, cf, k1, n1, a1, c1, k2, n2, a2, c2, g1, g2, rfl, hbf, d0, d1, d2, d3, hX1, hX2, _, hcf⟩ := hsf.two
  obtain ⟨bt, ot, ct, k3, n3, a3, c3, k4, n4, a4, c4, g3, g4, rfl, hbt, e0, e1, e2, e3, hY1, hY2, _, hct⟩ := hst.two
  have q1 : (kf == 1) = false := by rw [hkf]; rfl
  have q2 : (kt == 1) = false := by rw [hkt]; rfl
  have q3 : (kf == 4) = false := by rw [hkf]; rfl
  have q4 : (kf == 5) = true := by rw [hkf]; rfl
  have q5 : (kf == kt) = true := by rw [hkf, hkt]; rfl
  have HWR := hid (show IntKind.i64.wrap (-l) = -l by rw [IntKind.wrap_i64]; omega)
  have hb0 : Below w.heap.size w (((w.alloc (Obj.cells #[.int .i64 kf, .slice (some ⟨bf, of, none⟩) 2 cf] 25)).alloc (Obj.cells #[.int .i64 kt, .slice (some ⟨bt, ot, none⟩) 2 ct] 25)).alloc (Obj.cells #[.int .i64 0, .int .i64 0, .int .i64 0, .slice none 0 0] 30)) := (((Below.refl _ _).alloc (Nat.le_refl _) _).alloc (by simp) _).alloc (by simp; omega) _
  have hs0 : ((((w.alloc (Obj.cells #[.int .i64 kf, .slice (some ⟨bf, of, none⟩) 2 cf] 25)).alloc (Obj.cells #[.int .i64 kt, .slice (some ⟨bt, ot, none⟩) 2 ct] 25)).alloc (Obj.cells #[.int .i64 0, .int .i64 0, .int .i64 0, .slice none 0 0] 30))).heap.size = w.heap.size + 1 + 1 + 1 := by simp
  obtain ⟨bF, bG, bZ⟩ := three3 (Below.refl ((((w.alloc (Obj.cells #[.int .i64 kf, .slice (some ⟨bf, of, none⟩) 2 cf] 25)).alloc (Obj.cells #[.int .i64 kt, .slice (some ⟨bt, ot, none⟩) 2 ct] 25)).alloc (Obj.cells #[.int .i64 0, .int .i64 0, .int .i64 0, .slice none 0 0] 30))).heap.size (((w.alloc (Obj.cells #[.int .i64 kf, .slice (some ⟨bf, of, none⟩) 2 cf] 25)).alloc (Obj.cells #[.int .i64 kt, .slice (some ⟨bt, ot, none⟩) 2 ct] 25)).alloc (Obj.cells #[.int .i64 0, .int .i64 0, .int .i64 0, .slice none 0 0] 30)))
  have x0 : ((((w.alloc (Obj.cells #[.int .i64 kf, .slice (some ⟨bf, of, none⟩) 2 cf] 25)).alloc (Obj.cells #[.int .i64 kt, .slice (some ⟨bt, ot, none⟩) 2 ct] 25)).alloc (Obj.cells #[.int .i64 0, .int .i64 0, .int .i64 0, .slice none 0 0] 30))).cell? ⟨w.heap.size, 0, none⟩ = some (.int .i64 kf) := by rw [cell_of_block bF]; rfl
  have x1 : ((((w.alloc (Obj.cells #[.int .i64 kf, .slice (some ⟨bf, of, none⟩) 2 cf] 25)).alloc (Obj.cells #[.int .i64 kt, .slice (some ⟨bt, ot, none⟩) 2 ct] 25)).alloc (Obj.cells #[.int .i64 0, .int .i64 0, .int .i64 0, .slice none 0 0] 30))).cell? ⟨w.heap.size, 1, none⟩ = some (.slice (some ⟨bf, of, none⟩) 2 cf) := by rw [cell_of_block bF]; rfl
  have y0 : ((((w.alloc (Obj.cells #[.int .i64 kf, .slice (some ⟨bf, of, none⟩) 2 cf] 25)).alloc (Obj.cells #[.int .i64 kt, .slice (some ⟨bt, ot, none⟩) 2 ct] 25)).alloc (Obj.cells #[.int .i64 0, .int .i64 0, .int .i64 0, .slice none 0 0] 30))).cell? ⟨w.heap.size + 1, 0, none⟩ = some (.int .i64 kt) := by rw [cell_of_block bG]; rfl
  have y1 : ((((w.alloc (Obj.cells #[.int .i64 kf, .slice (some ⟨bf, of, none⟩) 2 cf] 25)).alloc (Obj.cells #[.int .i64 kt, .slice (some ⟨bt, ot, none⟩) 2 ct] 25)).alloc (Obj.cells #[.int .i64 0, .int .i64 0, .int .i64 0, .slice none 0 0] 30))).cell? ⟨w.heap.size + 1, 1, none⟩ = some (.slice (some ⟨bt, ot, none⟩) 2 ct) := by rw [cell_of_block bG]; rfl
  have HM := hid (fun (w' : World) (h : Below ((((w.alloc (Obj.cells #[.int .i64 kf, .slice (some ⟨bf, of, none⟩) 2 cf] 25)).alloc (Obj.cells #[.int .i64 kt, .slice (some ⟨bt, ot, none⟩) 2 ct] 25)).alloc (Obj.cells #[.int .i64 0, .int .i64 0, .int .i64 0, .slice none 0 0] 30))).heap.size (((w.alloc (Obj.cells #[.int .i64 kf, .slice (some ⟨bf, of, none⟩) 2 cf] 25)).alloc (Obj.cells #[.int .i64 kt, .slice (some ⟨bt, ot, none⟩) 2 ct] 25)).alloc (Obj.cells #[.int .i64 0, .int .i64 0, .int .i64 0, .slice none 0 0] 30)) w') => (h.block (w.heap.size + 1 + 1) (by omega)).trans bZ)
  have HB := hid hb0
  have HZ0 := hid hs0
  have HS0 := hid (show ∀ w', Below ((((w.alloc (Obj.cells #[.int .i64 kf, .slice (some ⟨bf, of, none⟩) 2 cf] 25)).alloc (Obj.cells #[.int .i64 kt, .slice (some ⟨bt, ot, none⟩) 2 ct] 25)).alloc (Obj.cells #[.int .i64 0, .int .i64 0, .int .i64 0, .slice none 0 0] 30))).heap.size (((w.alloc (Obj.cells #[.int .i64 kf, .slice (some ⟨bf, of, none⟩) 2 cf] 25)).alloc (Obj.cells #[.int .i64 kt, .slice (some ⟨bt, ot, none⟩) 2 ct] 25)).alloc (Obj.cells #[.int .i64 0, .int .i64 0, .int .i64 0, .slice none 0 0] 30)) w' → (fun w' => w'.cell? ⟨w.heap.size, 0, none⟩ = some (.int .i64 kf) ∧ w'.cell? ⟨w.heap.size, 1, none⟩ = some (.slice (some ⟨bf, of, none⟩) 2 cf) ∧ w'.cell? ⟨w.heap.size + 1, 0, none⟩ = some (.int .i64 kt) ∧ w'.cell? ⟨w.heap.size + 1, 1, none⟩ = some (.slice (some ⟨bt, ot, none⟩) 2 ct) ∧ w'.cell? ⟨bf, of, none⟩ = some (.int .i64 k1) ∧ w'.cell? ⟨bf, of + 1, none⟩ = some (.slice a1 n1 c1) ∧ w'.cell? ⟨bf, of + 2, none⟩ = some (.int .i64 k2) ∧ w'.cell? ⟨bf, of + 2 + 1, none⟩ = some (.slice a2 n2 c2) ∧ w'.cell? ⟨bt, ot, none⟩ = some (.int .i64 k3) ∧ w'.cell? ⟨bt, ot + 1, none⟩ = some (.slice a3 n3 c3) ∧ w'.cell? ⟨bt, ot + 2, none⟩ = some (.int .i64 k4) ∧ w'.cell? ⟨bt, ot + 2 + 1, none⟩ = some (.slice a4 n4 c4)) w' from fun w' h => ⟨cell_keep x0 h, cell_keep x1 h, cell_keep y0 h, cell_keep y1 h, cell_keep (cell_keep d0 hb0) h, cell_keep (cell_keep d1 hb0) h, cell_keep (cell_keep d2 hb0) h, cell_keep (cell_keep d3 hb0) h, cell_keep (cell_keep e0 hb0) h, cell_keep (cell_keep e1 hb0) h, cell_keep (cell_keep e2 hb0) h, cell_keep (cell_keep e3 hb0) h⟩)
  have H1 := hid (And.intro (hX1.below hb0) (And.intro (hX2.below hb0) (And.intro (hY1.below hb0) (hY2.below hb0))))
  have HP := hid (And.intro hf1 (And.intro hf2 (And.intro ht1 (And.intro ht2 (And.intro (cons_symm2 hc1) (And.intro hc1 hc2))))))
  have HIH := hid ih
  have HFU := hid (show fuelOk n d f1 t1 ∧ fuelOk n d t1 f1 ∧ fuelOk n d f2 t2 from ⟨.inl hn, .inl hn, .inl hn⟩)
  clear ih hb0 hs0 bF bG bZ hatf hatt hn hsf hst hX1 hX2 hY1 hY2 d0 d1 d2 d3 e0 e1 e2 e3 hf1 hf2 ht1 ht2 hc1 hc2 hkf hkt x0 x1 y0 y1
  have hS00 := HS0.out _ (Below.refl _ _)
  obtain ⟨x0, x1, y0, y1, d0, d1, d2, d3, e0, e1, e2, e3⟩ := hS00
  go_enter Try.func42, Try.ntmps42
  go_wp2_with fail
  refine regionL (s := 22) (S0 := (fun w' => w'.cell? ⟨w.heap.size, 0, none⟩ = some (.int .i64 kf) ∧ w'.cell? ⟨w.heap.size, 1, none⟩ = some (.slice (some ⟨bf, of, none⟩) 2 cf) ∧ w'.cell? ⟨w.heap.size + 1, 0, none⟩ = some (.int .i64 kt) ∧ w'.cell? ⟨w.heap.size + 1, 1, none⟩ = some (.slice (some ⟨bt, ot, none⟩) 2 ct) ∧ w'.cell? ⟨bf, of, none⟩ = some (.int .i64 k1) ∧ w'.cell? ⟨bf, of + 1, none⟩ = some (.slice a1 n1 c1) ∧ w'.cell? ⟨bf, of + 2, none⟩ = some (.int .i64 k2) ∧ w'.cell? ⟨bf, of + 2 + 1, none⟩ = some (.slice a2 n2 c2) ∧ w'.cell? ⟨bt, ot, none⟩ = some (.int .i64 k3) ∧ w'.cell? ⟨bt, ot + 1, none⟩ = some (.slice a3 n3 c3) ∧ w'.cell? ⟨bt, ot + 2, none⟩ = some (.int .i64 k4) ∧ w'.cell? ⟨bt, ot + 2 + 1, none⟩ = some (.slice a4 n4 c4))) (S1 := (fun _ => True)) (by kernel_rfl) (HS0.out _ (below_drew _)) (trivial) (fun hS0 => ?_)
  refine takeL0 (i := 0) (v := ?vq1) rfl rfl (by kernel_rfl) (by kernel_rfl) (by kernel_rfl) (by decide) (by kernel_rfl) (by kernel_rfl) (fun _ _ _ h => h) (Or.inl ⟨by rfl, ?hyq1⟩) (by assumption) ?_
  case hyq1 => (intro w hSw; (try dsimp only at hSw); go_simp; (try with_reducible rfl))
  try simp only [Act.put, List.setIfInBounds_toArray, List.set_cons_zero, List.set_cons_succ]
  refine takeL0 (i := 1) (v := ?vq2) rfl rfl (by kernel_rfl) (by kernel_rfl) (by kernel_rfl) (by decide) (by kernel_rfl) (by kernel_rfl) (fun _ _ _ h => h) (Or.inl ⟨by rfl, ?hyq2⟩) (by assumption) ?_
  case hyq2 => (intro w hSw; (try dsimp only at hSw); go_simp; (try with_reducible rfl))
  try simp only [Act.put, List.setIfInBounds_toArray, List.set_cons_zero, List.set_cons_succ]
  refine takeL0 (i := 2) (v := ?vq3) rfl rfl (by kernel_rfl) (by kernel_rfl) (by kernel_rfl) (by decide) (by kernel_rfl) (by kernel_rfl) (fun _ _ _ h => h) (Or.inl ⟨by rfl, ?hyq3⟩) (by assumption) ?_
  case hyq3 => (intro w hSw; (try dsimp only at hSw); go_simp; (try with_reducible rfl))
  try simp only [Act.put, List.setIfInBounds_toArray, List.set_cons_zero, List.set_cons_succ]
  refine takeL0 (i := 3) (v := ?vq4) rfl rfl (by kernel_rfl) (by kernel_rfl) (by kernel_rfl) (by decide) (by kernel_rfl) (by kernel_rfl) (fun _ _ _ h => h) (Or.inl ⟨by rfl, ?hyq4⟩) (by assumption) ?_
  case hyq4 => (intro w hSw; (try dsimp only at hSw); go_simp; (try with_reducible rfl))
  try simp only [Act.put, List.setIfInBounds_toArray, List.set_cons_zero, List.set_cons_succ]
  refine takeL0 (i := 4) (v := ?vq5) rfl rfl (by kernel_rfl) (by kernel_rfl) (by kernel_rfl) (by decide) (by kernel_rfl) (by kernel_rfl) (fun _ _ _ h => h) (Or.inl ⟨by rfl, ?hyq5⟩) (by assumption) ?_
  case hyq5 => (intro w hSw; (try dsimp only at hSw); go_simp; (try with_reducible rfl))
  try simp only [Act.put, List.setIfInBounds_toArray, List.set_cons_zero, List.set_cons_succ]
  refine takeL0 (i := 5) (v := ?vq6) rfl rfl (by kernel_rfl) (by kernel_rfl) (by kernel_rfl) (by decide) (by kernel_rfl) (by kernel_rfl) (fun _ _ _ h => h) (Or.inl ⟨by rfl, ?hyq6⟩) (by assumption) ?_
  case hyq6 => (intro w hSw; (try dsimp only at hSw); go_simp; (try with_reducible rfl))
  try simp only [Act.put, List.setIfInBounds_toArray, List.set_cons_zero, List.set_cons_succ]
  refine takeL0 (i := 6) (v := ?vq7) rfl rfl (by kernel_rfl) (by kernel_rfl) (by kernel_rfl) (by decide) (by kernel_rfl) (by kernel_rfl) (fun _ _ _ h => h) (Or.inl ⟨by rfl, ?hyq7⟩) (by assumption) ?_
  case hyq7 => (intro w hSw; (try dsimp only at hSw); go_simp; (try with_reducible rfl))
  try simp only [Act.put, List.setIfInBounds_toArray, List.set_cons_zero, List.set_cons_succ]
  refine takeL0 (i := 7) (v := ?vq8) rfl rfl (by kernel_rfl) (by kernel_rfl) (by kernel_rfl) (by decide) (by kernel_rfl) (by kernel_rfl) (fun _ _ _ h => h) (Or.inl ⟨by rfl, ?hyq8⟩) (by assumption) ?_
  case hyq8 => (intro w hSw; (try dsimp only at hSw); go_simp; (try with_reducible rfl))
  try simp only [Act.put, List.setIfInBounds_toArray, List.set_cons_zero, List.set_cons_succ]
  refine takeL0 (i := 8) (v := ?vq9) rfl rfl (by kernel_rfl) (by kernel_rfl) (by kernel_rfl) (by decide) (by kernel_rfl) (by kernel_rfl) (fun _ _ _ h => h) (Or.inl ⟨by rfl, ?hyq9⟩) (by assumption) ?_
  case hyq9 => (intro w hSw; (try dsimp only at hSw); go_simp; (try with_reducible rfl))
  try simp only [Act.put, List.setIfInBounds_toArray, List.set_cons_zero, List.set_cons_succ]
  refine takeL0 (i := 10) (v := ?vq10) rfl rfl (by kernel_rfl) (by kernel_rfl) (by kernel_rfl) (by decide) (by kernel_rfl) (by kernel_rfl) (fun _ _ _ h => h) (Or.inl ⟨by rfl, ?hyq10⟩) (by assumption) ?_
  case hyq10 => (intro w hSw; (try dsimp only at hSw); go_simp; (try with_reducible rfl))
  try simp only [Act.put, List.setIfInBounds_toArray, List.set_cons_zero, List.set_cons_succ]
  refine takeL0 (i := 11) (v := ?vq11) rfl rfl (by kernel_rfl) (by kernel_rfl) (by kernel_rfl) (by decide) (by kernel_rfl) (by kernel_rfl) (fun _ _ _ h => h) (Or.inl ⟨by rfl, ?hyq11⟩) (by assumption) ?_
  case hyq11 => (intro w hSw; (try dsimp only at hSw); go_simp; (try with_reducible rfl))
  try simp only [Act.put, List.setIfInBounds_toArray, List.set_cons_zero, List.set_cons_succ]
  refine takeL0 (i := 12) (v := ?vq12) rfl rfl (by kernel_rfl) (by kernel_rfl) (by kernel_rfl) (by decide) (by kernel_rfl) (by kernel_rfl) (fun _ _ _ h => h) (Or.inl ⟨by rfl, ?hyq12⟩) (by assumption) ?_
  case hyq12 => (intro w hSw; (try dsimp only at hSw); go_simp; (try with_reducible rfl))
  try simp only [Act.put, List.setIfInBounds_toArray, List.set_cons_zero, List.set_cons_succ]
  refine takeL0 (i := 13) (v := ?vq13) rfl rfl (by kernel_rfl) (by kernel_rfl) (by kernel_rfl) (by decide) (by kernel_rfl) (by kernel_rfl) (fun _ _ _ h => h) (Or.inl ⟨by rfl, ?hyq13⟩) (by assumption) ?_
  case hyq13 => (intro w hSw; (try dsimp only at hSw); go_simp; (try with_reducible rfl))
  try simp only [Act.put, List.setIfInBounds_toArray, List.set_cons_zero, List.set_cons_succ]
  refine takeL0 (i := 14) (v := ?vq14) rfl rfl (by kernel_rfl) (by kernel_rfl) (by kernel_rfl) (by decide) (by kernel_rfl) (by kernel_rfl) (fun _ _ _ h => h) (Or.inl ⟨by rfl, ?hyq14⟩) (by assumption) ?_
  case hyq14 => (intro w hSw; (try dsimp only at hSw); go_simp; (try with_reducible rfl))
  try simp only [Act.put, List.setIfInBounds_toArray, List.set_cons_zero, List.set_cons_succ]
  refine takeL0 (i := 15) (v := ?vq15) rfl rfl (by kernel_rfl) (by kernel_rfl) (by kernel_rfl) (by decide) (by kernel_rfl) (by kernel_rfl) (fun _ _ _ h => h) (Or.inl ⟨by rfl, ?hyq15⟩) (by assumption) ?_
  case hyq15 => (intro w hSw; (try dsimp only at hSw); go_simp; (try with_reducible rfl))
  try simp only [Act.put, List.setIfInBounds_toArray, List.set_cons_zero, List.set_cons_succ]
  refine takeL0 (i := 16) (v := ?vq16) rfl rfl (by kernel_rfl) (by kernel_rfl) (by kernel_rfl) (by decide) (by kernel_rfl) (by kernel_rfl) (fun _ _ _ h => h) (Or.inl ⟨by rfl, ?hyq16⟩) (by assumption) ?_
  case hyq16 => (intro w hSw; (try dsimp only at hSw); go_simp; (try with_reducible rfl))
  try simp only [Act.put, List.setIfInBounds_toArray, List.set_cons_zero, List.set_cons_succ]
  refine takeL0 (i := 17) (v := ?vq17) rfl rfl (by kernel_rfl) (by kernel_rfl) (by kernel_rfl) (by decide) (by kernel_rfl) (by kernel_rfl) (fun _ _ _ h => h) (Or.inl ⟨by rfl, ?hyq17⟩) (by assumption) ?_
  case hyq17 => (intro w hSw; (try dsimp only at hSw); go_simp; (try with_reducible rfl))
  try simp only [Act.put, List.setIfInBounds_toArray, List.set_cons_zero, List.set_cons_succ]
  refine takeL0 (i := 18) (v := ?vq18) rfl rfl (by kernel_rfl) (by kernel_rfl) (by kernel_rfl) (by decide) (by kernel_rfl) (by kernel_rfl) (fun _ _ _ h => h) (Or.inl ⟨by rfl, ?hyq18⟩) (by assumption) ?_
  case hyq18 => (intro w hSw; (try dsimp only at hSw); go_simp; (try with_reducible rfl))
  try simp only [Act.put, List.setIfInBounds_toArray, List.set_cons_zero, List.set_cons_succ]
  refine readyL (rs := [9]) (by kernel_rfl) (by simp) ?_
  refine AllReadyL.cons rfl (fun K hK => ?_) AllReadyL.nil
  go_simp
  refine (l6Cast_from HIH.out (W0 := (((w.alloc (Obj.cells #[.int .i64 kf, .slice (some ⟨bf, of, none⟩) 2 cf] 25)).alloc (Obj.cells #[.int .i64 kt, .slice (some ⟨bt, ot, none⟩) 2 ct] 25)).alloc (Obj.cells #[.int .i64 0, .int .i64 0, .int .i64 0, .slice none 0 0] 30))) (l := l) (below_drew _) HFU.out.1 hd HP.out.1 HP.out.2.2.1 HP.out.2.2.2.2.2.1 hl1 hl2 H1.out.1 H1.out.2.2.1).mono ?_
  rintro e w1 ⟨⟨v1, r1, rfl, hat1, hr1, hb1⟩, hU1⟩
  obtain ⟨p0, p1, p2, pn, pa, pc, rfl⟩ := hat1.agg
  have hB1 := below_trans hU1 hb1
  have hr1n := hr1.mono hU1.size
  refine hK.out _ _ ?_ (fun hS1 => ?_)
  · exact ⟨trivial, fun _ => HS0.out _ hB1⟩
  clear hK K hS0
  try simp only [Act.put, List.setIfInBounds_toArray, List.set_cons_zero, List.set_cons_succ]
  refine readyL (rs := [19]) (by kernel_rfl) (by simp) ?_
  refine AllReadyL.cons rfl (fun K hK => ?_) AllReadyL.nil
  go_simp
  refine (HIH.out f2 t2 l d _ _ _ _ w1 HFU.out.2.2 hd HP.out.2.1 HP.out.2.2.2.1 HP.out.2.2.2.2.2.2 hl1 hl2 (H1.out.2.1.below hB1) (H1.out.2.2.2.below hB1)).mono ?_
  rintro e w2 ⟨v2, r2, rfl, hat2, hr2, hb2⟩
  obtain ⟨q0, q1, q2, qn, qa, qc, rfl⟩ := hat2.agg
  have hB2 := below_trans hB1 hb2
  refine hK.out _ _ ?_ (fun hS2 => ?_)
  · exact ⟨trivial, fun _ => HS0.out _ hB2⟩
  clear hK K hS1
  try simp only [Act.put, List.setIfInBounds_toArray, List.set_cons_zero, List.set_cons_succ]
  refine readyL (rs := [20]) (by kernel_rfl) (by simp) ?_
  refine AllReadyL.cons rfl (fun K hK => ?_) AllReadyL.nil
  go_simp
  refine hK.out _ _ ?_ (fun hS3 => ?_)
  · exact ⟨trivial, fun _ => HS0.out _ (hB2.alloc hB2.size (Obj.cells #[.int .i64 p0, .int .i64 p1, .int .i64 p2, .slice pa pn pc, .int .i64 q0, .int .i64 q1, .int .i64 q2, .slice qa qn qc] 30))⟩
  clear hK K hS2
  try simp only [Act.put, List.setIfInBounds_toArray, List.set_cons_zero, List.set_cons_succ]
  refine readyL (rs := [21]) (by kernel_rfl) (by simp) ?_
  refine AllReadyL.cons rfl (fun K hK => ?_) AllReadyL.nil
  go_simp
  refine hK.out _ _ ?_ (fun hS4 => ?_)
  · exact ⟨trivial, fun _ => HS0.out _ (hB2.alloc hB2.size (Obj.cells #[.int .i64 p0, .int .i64 p1, .int .i64 p2, .slice pa pn pc, .int .i64 q0, .int .i64 q1, .int .i64 q2, .slice qa qn qc] 30))⟩
  clear hK K hS3
  try simp only [Act.put, List.setIfInBounds_toArray, List.set_cons_zero, List.set_cons_succ]
  refine readyL (rs := [22]) (by kernel_rfl) (by simp) ?_
  refine AllReadyL.cons rfl (fun K hK => ?_) AllReadyL.nil
  have bM := HM.out _ (hB2.alloc hB2.size (Obj.cells #[.int .i64 p0, .int .i64 p1, .int .i64 p2, .slice pa pn pc, .int .i64 q0, .int .i64 q1, .int .i64 q2, .slice qa qn qc] 30))
  have z0 := (cell_of_block (o := 0) bM).trans (show _ = some (.int .i64 0) from rfl)
  have z1 := (cell_of_block (o := 1) bM).trans (show _ = some (.int .i64 0) from rfl)
  have z2 := (cell_of_block (o := 2) bM).trans (show _ = some (.int .i64 0) from rfl)
  have z3 := (cell_of_block (o := 3) bM).trans (show _ = some (.slice none 0 0) from rfl)
  have yz := fun o => frozen_of_block (o := o) bM
  go_simp
  refine hK.out _ _ ?_ (fun hS5 => ?_)
  · exact ⟨trivial, fun h => absurd (h.symm.trans (show _ = true by kernel_rfl)) (by decide)⟩
  clear hK K hS4
  try simp only [Act.put, List.setIfInBounds_toArray, List.set_cons_zero, List.set_cons_succ]
  refine doneL (by kernel_rfl) ?_ _
  have FIN := hid (close4 (w := w) (wF := w2.alloc (Obj.cells #[.int .i64 p0, .int .i64 p1, .int .i64 p2, .slice pa pn pc, .int .i64 q0, .int .i64 q1, .int .i64 q2, .slice qa qn qc] 30)) (M := w.heap.size + 1 + 1) (lo := ((((w.alloc (Obj.cells #[.int .i64 kf, .slice (some ⟨bf, of, none⟩) 2 cf] 25)).alloc (Obj.cells #[.int .i64 kt, .slice (some ⟨bt, ot, none⟩) 2 ct] 25)).alloc (Obj.cells #[.int .i64 0, .int .i64 0, .int .i64 0, .slice none 0 0] 30))).heap.size) (co_two (k := 3) (g := 0) (l := 0) (alloc_new w2 (Obj.cells #[.int .i64 p0, .int .i64 p1, .int .i64 p2, .slice pa pn pc, .int .i64 q0, .int .i64 q1, .int .i64 q2, .slice qa qn qc] 30)) ((hat1.below hb2).below ((Below.refl w2.heap.size w2).alloc (Nat.le_refl _) (Obj.cells #[.int .i64 p0, .int .i64 p1, .int .i64 p2, .slice pa pn pc, .int .i64 q0, .int .i64 q1, .int .i64 q2, .slice qa qn qc] 30))) (hat2.below ((Below.refl w2.heap.size w2).alloc (Nat.le_refl _) (Obj.cells #[.int .i64 p0, .int .i64 p1, .int .i64 p2, .slice pa pn pc, .int .i64 q0, .int .i64 q1, .int .i64 q2, .slice qa qn qc] 30)))) (Fresh.row (((hr1n.append hr2 (Nat.le_refl _) (hB1.size) hb2)).below ((Below.refl w2.heap.size w2).alloc (Nat.le_refl _) (Obj.cells #[.int .i64 p0, .int .i64 p1, .int .i64 p2, .slice pa pn pc, .int .i64 q0, .int .i64 q1, .int .i64 q2, .slice qa qn qc] 30))) (alloc_new w2 (Obj.cells #[.int .i64 p0, .int .i64 p1, .int .i64 p2, .slice pa pn pc, .int .i64 q0, .int .i64 q1, .int .i64 q2, .slice qa qn qc] 30)) hB2.size (fun x hx => ((hr1n.append hr2 (Nat.le_refl _) (hB1.size) hb2).2 x hx).2.1)) (by omega) (by have := HZ0.out; omega) (below_trans HB.out (hB2.alloc hB2.size (Obj.cells #[.int .i64 p0, .int .i64 p1, .int .i64 p2, .slice pa pn pc, .int .i64 q0, .int .i64 q1, .int .i64 q2, .slice qa qn qc] 30))))
  simp only [put4, Nat.zero_add] at FIN
  go_wp2_with fail
  exact bodyPost_ret (v := .agg #[.int .i64 3, .int .i64 0, .int .i64 0, .slice (some ⟨w2.heap.size, 0, none⟩) 2 2]) (by simp [results, Try.results42, go_sem, z0, z1, z2, z3]) rfl FIN.out
theorem l6Cast_any : ∀ n, l6CastC n := by
  intro n
  induction n with
  | zero =>
    intro f t l d vf vt ff ft w hn hd hf ht
    exfalso
    cases d with
    | zero => simp [shp] at hf
    | succ d => rcases hn with hn | ⟨hn, _⟩ <;> omega
  | succ n ih =>
    intro f t l d vf vt ff ft w hn hd hf ht hc hl1 hl2 hatf hatt
    cases cstK hf ht hc with
    | id k h => rw [cst_id]; exact l6Cast_id k l h vf vt ff ft w hatf hatt
    | inj _ h =>
      rw [cst_inj h]
      refine l6Cast_inj n ih f l d vf vt ff ft w h ?_ hd hf hl1 hl2 hatf hatt
      rcases hn with hn | ⟨_, hk⟩
      · exact hn
      · exact absurd hk h
    | prj _ h =>
      rw [cst_prj h]
      refine l6Cast_prj n ih t l d vf vt ff ft w h ?_ hd ht hl1 hl2 hatf hatt
      rcases hn with hn | ⟨_, hk⟩
      · exact hn
      · exact absurd hk.symm h
    | two k f1 f2 t1 t2 h a1 a2 b1 b2 e1 e2 hd1 =>
      have h2 : 2 * (d - 1) ≤ n := by rcases hn with hn | ⟨hn, _⟩ <;> omega
      rw [cst_two h]
      rcases h with rfl | rfl
      · exact l6Cast_two4 n ih f1 f2 t1 t2 l (d - 1) vf vt ff ft w h2 (by omega) a1 a2 b1 b2 e1 e2 hl1 hl2 hatf hatt
      · exact l6Cast_two5 n ih f1 f2 t1 t2 l (d - 1) vf vt ff ft w h2 (by omega) a1 a2 b1 b2 e1 e2 hl1 hl2 hatf hatt
end Go.Proofs.Ytolhfcpmhhhjpaa

/- The program's coerce. -/
import Derived.Test.YtolhfcpmhhhjpaaSG3
import Derived.Test.YtolhfcpmhhhjpaaSG1
namespace Go.Proofs.Ytolhfcpmhhhjpaa
open Go.RowKit

def coerceC (n : Nat) : Prop := ∀ (f t : Ty) (l : Int) (d : Nat) (vf vt : Value) (ff ft : List Nat) (w : World), fuelOk n d f t → d ≤ 4 → shp d f = true → shp d t = true → cons f t = true → -99 ≤ l → l ≤ 99 → f.At w vf ff → t.At w vt ft →
  Calls Try.prog 39 #[vf, vt, .int .i64 l] w (MadeC w (cst n f t l))

theorem coerce_from {n : Nat} (ih : coerceC n) {W0 w1 : World} (u : Below W0.heap.size W0 w1) {f t : Ty} {l : Int} {d : Nat} {vf vt : Value} {ff ft : List Nat} (h1 : fuelOk n d f t) (h2 : d ≤ 4) (h3 : shp d f = true) (h4 : shp d t = true) (h5 : cons f t = true) (h6 : -99 ≤ l) (h7 : l ≤ 99) (h8 : f.At W0 vf ff) (h9 : t.At W0 vt ft) :
    Calls Try.prog 39 #[vf, vt, .int .i64 l] w1 fun e w' => MadeC w1 (cst n f t l) e w' ∧ Below W0.heap.size W0 w1 :=
  (ih f t l d vf vt ff ft w1 h1 h2 h3 h4 h5 h6 h7 (h8.below u) (h9.below u)).mono fun _ _ h => ⟨h, u⟩

theorem groundi_from {W0 w1 : World} (u : Below W0.heap.size W0 w1) {k : Int} (hk : 1 ≤ k ∧ k ≤ 5) :
    Calls Try.prog 78 #[.int .i64 k] w1 fun e w' => MadeT w1 (gk k) e w' ∧ Below W0.heap.size W0 w1 :=
  (groundOfKind_any k hk w1).mono fun _ _ h => ⟨h, u⟩

theorem coercionOf_any (k : Int) (a : Option Addr) (n cap : Nat) (w : World) : Calls Try.prog 77 #[.int .i64 k, .slice a n cap] w fun e w' => e = .returned (.agg #[.int .i64 k, .int .i64 0, .int .i64 0, .slice a n cap]) ∧ Below w.heap.size w w' := by
  go_enter Try.func77, Try.ntmps77
  go_wp2_with fail
  exact bodyPost_ret (v := .agg #[.int .i64 k, .int .i64 0, .int .i64 0, .slice a n cap]) (by simp [results, Try.results77, go_sem]) rfl ⟨rfl, (Below.refl _ _).alloc (Nat.le_refl _) _⟩

theorem Fresh.comm {B : Nat} {w : World} {f g : List Nat} (h : Fresh B w (f ++ g)) : Fresh B w (g ++ f) := by
  refine ⟨?_, fun b hb => h.2 b (by simp only [List.mem_append] at *; exact hb.symm)⟩
  obtain ⟨h1, h2, h3⟩ := List.nodup_append.1 h.1
  exact List.nodup_append.2 ⟨h2, h1, fun a ha b hb e => h3 b hb a ha e.symm⟩

/-- A coercion stored into a variable of its own. -/
theorem sec_close {W X : World} {b lo : Nat} {t : Co} {x0 x1 x2 x3 : Value} {r : List Nat} (hE : X.heap[b]? = some (Obj.cells #[.int .i64 0, .int .i64 0, .int .i64 0, .slice none 0 0] 30)) (ht : t.At X (.agg #[x0, x1, x2, x3]) r) (hr : Fresh lo X r) (hne : ∀ y ∈ r, y ≠ b) (hb : W.heap.size ≤ b) (hB : Below W.heap.size W X) :
    ∃ wS, wS = put4 X b 0 x0 x1 x2 x3 ∧ wS.heap[b]? = some (Obj.cells #[x0, x1, x2, x3] 30) ∧ t.At wS (.agg #[x0, x1, x2, x3]) r ∧ Fresh lo wS r ∧ Below W.heap.size W wS := by
  refine ⟨_, rfl, heap_setCell_at (heap_setCell_at (heap_setCell_at (heap_setCell_at hE x0) x1) x2) x3, ?_, ?_, put4_below hB hb _ _ _ _⟩
  · exact (((ht.setCell (a := ⟨b, 0, none⟩) hne x0).setCell (a := ⟨b, 0 + 1, none⟩) hne x1).setCell (a := ⟨b, 0 + 2, none⟩) hne x2).setCell (a := ⟨b, 0 + 3, none⟩) hne x3
  · exact (((hr.setCell (a := ⟨b, 0, none⟩) hne x0).setCell (a := ⟨b, 0 + 1, none⟩) hne x1).setCell (a := ⟨b, 0 + 2, none⟩) hne x2).setCell (a := ⟨b, 0 + 3, none⟩) hne x3

/-- What projectOf hands back: its operand lies in a row of its own. -/
def PrjX (w : World) (l : Int) (vs : Array Value) (e : Ending) (w' : World) : Prop :=
  ∃ b, e = .returned (.agg #[.int .i64 5, .int .i64 0, .int .i64 l, .slice (some ⟨b, 0, none⟩) 1 1]) ∧ w'.heap[b]? = some (Obj.cells vs 30) ∧ w.heap.size ≤ b ∧ Below w.heap.size w w'

theorem projectOf_any (l p0 p1 p2 : Int) (pa : Option Addr) (pn pc : Nat) (w : World) : Calls Try.prog 79 #[.int .i64 l, .agg #[.int .i64 p0, .int .i64 p1, .int .i64 p2, .slice pa pn pc]] w (PrjX w l #[.int .i64 p0, .int .i64 p1, .int .i64 p2, .slice pa pn pc]) := by
  have HR := hid (fun (o1 o2 o3 : Obj) => three3 (o1 := o1) (o2 := o2) (o3 := o3) (Below.refl (((w.alloc o1).alloc o2).alloc o3).heap.size (((w.alloc o1).alloc o2).alloc o3)))
  have HB := hid (fun (o1 o2 o3 : Obj) => ((((Below.refl w.heap.size w).alloc (Nat.le_refl _) o1).alloc (by simp) o2).alloc (by simp; omega) o3))
  go_enter Try.func79, Try.ntmps79
  go_wp2_with fail
  first
    | exact bodyPost_ret (v := .agg #[.int .i64 5, .int .i64 0, .int .i64 l, .slice (some ⟨w.heap.size + 1 + 1, 0, none⟩) 1 1]) (by simp [results, Try.results79, go_sem]) rfl ⟨_, rfl, (HR.out _ _ _).2.2, by omega, HB.out _ _ _⟩
    | exact bodyPost_ret (v := .agg #[.int .i64 5, .int .i64 0, .int .i64 l, .slice (some ⟨w.heap.size + 1, 0, none⟩) 1 1]) (by simp [results, Try.results79, go_sem]) rfl ⟨_, rfl, (HR.out _ _ _).2.1, by omega, HB.out _ _ _⟩

theorem id_made (w : World) (k : Int) (o1 o2 : Obj) (C : Array Value) (T : TypeId) (fz : Nat × Nat) : MadeC w (.mk 1 k 0 []) (.returned (.agg #[.int .i64 1, .int .i64 k, .int .i64 0, .slice none 0 0])) (((w.alloc o1).alloc o2).alloc (.cells C T fz)) :=
  ⟨_, [], rfl, Co.at_mk.2 ⟨.slice none 0 0, rfl, CSl.nilA⟩, Fresh.nil _ _, (((Below.refl _ _).alloc (Nat.le_refl _) _).alloc (by simp) _).alloc (by simp; omega) _⟩

set_option maxHeartbeats 1000000 in
theorem coerce_id (k l : Int) (hk : k = 1 ∨ k = 2 ∨ k = 3) (vf vt : Value) (ff ft : List Nat) (w : World) (hatf : (Ty.mk k []).At w vf ff) (hatt : (Ty.mk k []).At w vt ft) :
    Calls Try.prog 39 #[vf, vt, .int .i64 l] w (MadeC w (.mk 1 k 0 [])) := by
  obtain ⟨sf, rfl, hsf⟩ := Ty.at_mk.1 hatf
  obtain ⟨st, rfl, hst⟩ := Ty.at_mk.1 hatt
  obtain ⟨af, cf, rfl⟩ := hsf.none'
  obtain ⟨at', ct, rfl⟩ := hst.none'
  clear hatf hatt hsf hst
  rcases hk with rfl | rfl | rfl
  · have hb0 : Below w.heap.size w (((w.alloc (Obj.cells #[.int .i64 1, .slice af 0 cf] 25)).alloc (Obj.cells #[.int .i64 1, .slice at' 0 ct] 25)).alloc (Obj.cells #[.int .i64 0, .int .i64 0, .int .i64 0, .slice none 0 0] 30)) := (((Below.refl _ _).alloc (Nat.le_refl _) _).alloc (by simp) _).alloc (by simp; omega) _
    have hs0 : ((((w.alloc (Obj.cells #[.int .i64 1, .slice af 0 cf] 25)).alloc (Obj.cells #[.int .i64 1, .slice at' 0 ct] 25)).alloc (Obj.cells #[.int .i64 0, .int .i64 0, .int .i64 0, .slice none 0 0] 30))).heap.size = w.heap.size + 1 + 1 + 1 := by simp
    obtain ⟨_, _, bZ⟩ := three3 (Below.refl ((((w.alloc (Obj.cells #[.int .i64 1, .slice af 0 cf] 25)).alloc (Obj.cells #[.int .i64 1, .slice at' 0 ct] 25)).alloc (Obj.cells #[.int .i64 0, .int .i64 0, .int .i64 0, .slice none 0 0] 30))).heap.size (((w.alloc (Obj.cells #[.int .i64 1, .slice af 0 cf] 25)).alloc (Obj.cells #[.int .i64 1, .slice at' 0 ct] 25)).alloc (Obj.cells #[.int .i64 0, .int .i64 0, .int .i64 0, .slice none 0 0] 30)))
    have HFIN := hid (fun (wF : World) (h : Below ((((w.alloc (Obj.cells #[.int .i64 1, .slice af 0 cf] 25)).alloc (Obj.cells #[.int .i64 1, .slice at' 0 ct] 25)).alloc (Obj.cells #[.int .i64 0, .int .i64 0, .int .i64 0, .slice none 0 0] 30))).heap.size (((w.alloc (Obj.cells #[.int .i64 1, .slice af 0 cf] 25)).alloc (Obj.cells #[.int .i64 1, .slice at' 0 ct] 25)).alloc (Obj.cells #[.int .i64 0, .int .i64 0, .int .i64 0, .slice none 0 0] 30)) wF) => close4 (w := w) (wF := wF) (M := w.heap.size + 1 + 1) (lo := w.heap.size + 1 + 1 + 1) (t := .mk 1 1 0 []) (fp := []) (Co.at_mk.2 ⟨.slice none 0 0, rfl, CSl.nilA⟩) (Fresh.nil _ _) (by omega) (by omega) (below_trans hb0 h))
    have FIN := hid (HFIN.out _ (Below.refl _ _))
    go_enter Try.func39, Try.ntmps39
    go_wp2_with fail
    exact bodyPost_ret (v := .agg #[.int .i64 1, .int .i64 1, .int .i64 0, .slice none 0 0]) (by simp [results, Try.results39, go_sem]) rfl (id_made w 1 _ _ _ _ _)
  · have hb0 : Below w.heap.size w (((w.alloc (Obj.cells #[.int .i64 2, .slice af 0 cf] 25)).alloc (Obj.cells #[.int .i64 2, .slice at' 0 ct] 25)).alloc (Obj.cells #[.int .i64 0, .int .i64 0, .int .i64 0, .slice none 0 0] 30)) := (((Below.refl _ _).alloc (Nat.le_refl _) _).alloc (by simp) _).alloc (by simp; omega) _
    have hs0 : ((((w.alloc (Obj.cells #[.int .i64 2, .slice af 0 cf] 25)).alloc (Obj.cells #[.int .i64 2, .slice at' 0 ct] 25)).alloc (Obj.cells #[.int .i64 0, .int .i64 0, .int .i64 0, .slice none 0 0] 30))).heap.size = w.heap.size + 1 + 1 + 1 := by simp
    obtain ⟨_, _, bZ⟩ := three3 (Below.refl ((((w.alloc (Obj.cells #[.int .i64 2, .slice af 0 cf] 25)).alloc (Obj.cells #[.int .i64 2, .slice at' 0 ct] 25)).alloc (Obj.cells #[.int .i64 0, .int .i64 0, .int .i64 0, .slice none 0 0] 30))).heap.size (((w.alloc (Obj.cells #[.int .i64 2, .slice af 0 cf] 25)).alloc (Obj.cells #[.int .i64 2, .slice at' 0 ct] 25)).alloc (Obj.cells #[.int .i64 0, .int .i64 0, .int .i64 0, .slice none 0 0] 30)))
    have HFIN := hid (fun (wF : World) (h : Below ((((w.alloc (Obj.cells #[.int .i64 2, .slice af 0 cf] 25)).alloc (Obj.cells #[.int .i64 2, .slice at' 0 ct] 25)).alloc (Obj.cells #[.int .i64 0, .int .i64 0, .int .i64 0, .slice none 0 0] 30))).heap.size (((w.alloc (Obj.cells #[.int .i64 2, .slice af 0 cf] 25)).alloc (Obj.cells #[.int .i64 2, .slice at' 0 ct] 25)).alloc (Obj.cells #[.int .i64 0, .int .i64 0, .int .i64 0, .slice none 0 0] 30)) wF) => close4 (w := w) (wF := wF) (M := w.heap.size + 1 + 1) (lo := w.heap.size + 1 + 1 + 1) (t := .mk 1 2 0 []) (fp := []) (Co.at_mk.2 ⟨.slice none 0 0, rfl, CSl.nilA⟩) (Fresh.nil _ _) (by omega) (by omega) (below_trans hb0 h))
    have FIN := hid (HFIN.out _ (Below.refl _ _))
    go_enter Try.func39, Try.ntmps39
    go_wp2_with fail
    exact bodyPost_ret (v := .agg #[.int .i64 1, .int .i64 2, .int .i64 0, .slice none 0 0]) (by simp [results, Try.results39, go_sem]) rfl (id_made w 2 _ _ _ _ _)
  · have hb0 : Below w.heap.size w (((w.alloc (Obj.cells #[.int .i64 3, .slice af 0 cf] 25)).alloc (Obj.cells #[.int .i64 3, .slice at' 0 ct] 25)).alloc (Obj.cells #[.int .i64 0, .int .i64 0, .int .i64 0, .slice none 0 0] 30)) := (((Below.refl _ _).alloc (Nat.le_refl _) _).alloc (by simp) _).alloc (by simp; omega) _
    have hs0 : ((((w.alloc (Obj.cells #[.int .i64 3, .slice af 0 cf] 25)).alloc (Obj.cells #[.int .i64 3, .slice at' 0 ct] 25)).alloc (Obj.cells #[.int .i64 0, .int .i64 0, .int .i64 0, .slice none 0 0] 30))).heap.size = w.heap.size + 1 + 1 + 1 := by simp
    obtain ⟨_, _, bZ⟩ := three3 (Below.refl ((((w.alloc (Obj.cells #[.int .i64 3, .slice af 0 cf] 25)).alloc (Obj.cells #[.int .i64 3, .slice at' 0 ct] 25)).alloc (Obj.cells #[.int .i64 0, .int .i64 0, .int .i64 0, .slice none 0 0] 30))).heap.size (((w.alloc (Obj.cells #[.int .i64 3, .slice af 0 cf] 25)).alloc (Obj.cells #[.int .i64 3, .slice at' 0 ct] 25)).alloc (Obj.cells #[.int .i64 0, .int .i64 0, .int .i64 0, .slice none 0 0] 30)))
    have HFIN := hid (fun (wF : World) (h : Below ((((w.alloc (Obj.cells #[.int .i64 3, .slice af 0 cf] 25)).alloc (Obj.cells #[.int .i64 3, .slice at' 0 ct] 25)).alloc (Obj.cells #[.int .i64 0, .int .i64 0, .int .i64 0, .slice none 0 0] 30))).heap.size (((w.alloc (Obj.cells #[.int .i64 3, .slice af 0 cf] 25)).alloc (Obj.cells #[.int .i64 3, .slice at' 0 ct] 25)).alloc (Obj.cells #[.int .i64 0, .int .i64 0, .int .i64 0, .slice none 0 0] 30)) wF) => close4 (w := w) (wF := wF) (M := w.heap.size + 1 + 1) (lo := w.heap.size + 1 + 1 + 1) (t := .mk 1 3 0 []) (fp := []) (Co.at_mk.2 ⟨.slice none 0 0, rfl, CSl.nilA⟩) (Fresh.nil _ _) (by omega) (by omega) (below_trans hb0 h))
    have FIN := hid (HFIN.out _ (Below.refl _ _))
    go_enter Try.func39, Try.ntmps39
    go_wp2_with fail
    exact bodyPost_ret (v := .agg #[.int .i64 1, .int .i64 3, .int .i64 0, .slice none 0 0]) (by simp [results, Try.results39, go_sem]) rfl (id_made w 3 _ _ _ _ _)
set_option maxRecDepth 100000 in
set_option maxHeartbeats 4000000 in
theorem coerce_inj (n : Nat) (ih : coerceC n) (f : Ty) (l : Int) (d : Nat) (vf vt : Value) (ff ft : List Nat) (w : World) (hk : kindT f ≠ 1) (hn : 2 * d ≤ n + 1) (hd : d ≤ 4) (hs : shp d f = true) (hl1 : -99 ≤ l) (hl2 : l ≤ 99) (hatf : f.At w vf ff) (hatt : (Ty.mk 1 []).At w vt ft) :
    Calls Try.prog 39 #[vf, vt, .int .i64 l] w (MadeC w (.mk 4 0 0 [cst n f (gk (kindT f)) l])) := by
  obtain ⟨kf, fs, rfl⟩ := f.shape
  obtain ⟨st, rfl, hst⟩ := Ty.at_mk.1 hatt
  obtain ⟨at', ct, rfl⟩ := hst.none'
  obtain ⟨sf, rfl, hsf⟩ := Ty.at_mk.1 hatf
  obtain ⟨af, cf, rfl⟩ := hsf.shape
  generalize hnf : fs.length = nf at *
  have hk1 : (kf == 1) = false := by rw [beq_eq_false_iff_ne]; exact hk
  have hkk : (kf == 1) = false := hk1
  have hkx : kindT (.mk kf fs) = kf := rfl
  have hb0 : Below w.heap.size w (((w.alloc (Obj.cells #[.int .i64 kf, .slice af nf cf] 25)).alloc (Obj.cells #[.int .i64 1, .slice at' 0 ct] 25)).alloc (Obj.cells #[.int .i64 0, .int .i64 0, .int .i64 0, .slice none 0 0] 30)) := (((Below.refl _ _).alloc (Nat.le_refl _) _).alloc (by simp) _).alloc (by simp; omega) _
  have hs0 : ((((w.alloc (Obj.cells #[.int .i64 kf, .slice af nf cf] 25)).alloc (Obj.cells #[.int .i64 1, .slice at' 0 ct] 25)).alloc (Obj.cells #[.int .i64 0, .int .i64 0, .int .i64 0, .slice none 0 0] 30))).heap.size = w.heap.size + 1 + 1 + 1 := by simp
  obtain ⟨bF, bG, bZ⟩ := three3 (Below.refl ((((w.alloc (Obj.cells #[.int .i64 kf, .slice af nf cf] 25)).alloc (Obj.cells #[.int .i64 1, .slice at' 0 ct] 25)).alloc (Obj.cells #[.int .i64 0, .int .i64 0, .int .i64 0, .slice none 0 0] 30))).heap.size (((w.alloc (Obj.cells #[.int .i64 kf, .slice af nf cf] 25)).alloc (Obj.cells #[.int .i64 1, .slice at' 0 ct] 25)).alloc (Obj.cells #[.int .i64 0, .int .i64 0, .int .i64 0, .slice none 0 0] 30)))
  have x0 : ((((w.alloc (Obj.cells #[.int .i64 kf, .slice af nf cf] 25)).alloc (Obj.cells #[.int .i64 1, .slice at' 0 ct] 25)).alloc (Obj.cells #[.int .i64 0, .int .i64 0, .int .i64 0, .slice none 0 0] 30))).cell? ⟨w.heap.size, 0, none⟩ = some (.int .i64 kf) := by rw [cell_of_block bF]; rfl
  have x1 : ((((w.alloc (Obj.cells #[.int .i64 kf, .slice af nf cf] 25)).alloc (Obj.cells #[.int .i64 1, .slice at' 0 ct] 25)).alloc (Obj.cells #[.int .i64 0, .int .i64 0, .int .i64 0, .slice none 0 0] 30))).cell? ⟨w.heap.size, 1, none⟩ = some (.slice af nf cf) := by rw [cell_of_block bF]; rfl
  have y0 : ((((w.alloc (Obj.cells #[.int .i64 kf, .slice af nf cf] 25)).alloc (Obj.cells #[.int .i64 1, .slice at' 0 ct] 25)).alloc (Obj.cells #[.int .i64 0, .int .i64 0, .int .i64 0, .slice none 0 0] 30))).cell? ⟨w.heap.size + 1, 0, none⟩ = some (.int .i64 1) := by rw [cell_of_block bG]; rfl
  have y1 : ((((w.alloc (Obj.cells #[.int .i64 kf, .slice af nf cf] 25)).alloc (Obj.cells #[.int .i64 1, .slice at' 0 ct] 25)).alloc (Obj.cells #[.int .i64 0, .int .i64 0, .int .i64 0, .slice none 0 0] 30))).cell? ⟨w.heap.size + 1, 1, none⟩ = some (.slice at' 0 ct) := by rw [cell_of_block bG]; rfl
  have HM := hid (fun (w' : World) (h : Below ((((w.alloc (Obj.cells #[.int .i64 kf, .slice af nf cf] 25)).alloc (Obj.cells #[.int .i64 1, .slice at' 0 ct] 25)).alloc (Obj.cells #[.int .i64 0, .int .i64 0, .int .i64 0, .slice none 0 0] 30))).heap.size (((w.alloc (Obj.cells #[.int .i64 kf, .slice af nf cf] 25)).alloc (Obj.cells #[.int .i64 1, .slice at' 0 ct] 25)).alloc (Obj.cells #[.int .i64 0, .int .i64 0, .int .i64 0, .slice none 0 0] 30)) w') => (h.block (w.heap.size + 1 + 1) (by omega)).trans bZ)
  have HB := hid hb0
  have HZ0 := hid hs0
  have HS0 := hid (show ∀ w', Below ((((w.alloc (Obj.cells #[.int .i64 kf, .slice af nf cf] 25)).alloc (Obj.cells #[.int .i64 1, .slice at' 0 ct] 25)).alloc (Obj.cells #[.int .i64 0, .int .i64 0, .int .i64 0, .slice none 0 0] 30))).heap.size (((w.alloc (Obj.cells #[.int .i64 kf, .slice af nf cf] 25)).alloc (Obj.cells #[.int .i64 1, .slice at' 0 ct] 25)).alloc (Obj.cells #[.int .i64 0, .int .i64 0, .int .i64 0, .slice none 0 0] 30)) w' → (fun w' => w'.cell? ⟨w.heap.size, 0, none⟩ = some (.int .i64 kf) ∧ w'.cell? ⟨w.heap.size, 1, none⟩ = some (.slice af nf cf) ∧ w'.cell? ⟨w.heap.size + 1, 0, none⟩ = some (.int .i64 1) ∧ w'.cell? ⟨w.heap.size + 1, 1, none⟩ = some (.slice at' 0 ct)) w' from fun w' h => ⟨cell_keep x0 h, cell_keep x1 h, cell_keep y0 h, cell_keep y1 h⟩)
  have HX := hid (hatf.below hb0)
  have HWF := hid (shp_wf hs)
  have HCN := hid (shp_cnt30 hs hd)
  have HSG := hid (shp_gk hs)
  have HCG := hid (cons_gk (shp_wf hs))
  have HS := hid hs
  have HKB := hid (wf_kind (shp_wf hs))
  have HIH := hid ih
  have HFU := hid (show 2 * d ≤ n + 1 from hn)
  rw [hkx] at *
  clear ih hb0 hs0 bF bG bZ hatf hatt hs hk hn hsf hst hnf hkx
  go_enter Try.func39, Try.ntmps39
  go_wp2_with fail
  refine regionL (s := 8) (S0 := (fun w' => w'.cell? ⟨w.heap.size, 0, none⟩ = some (.int .i64 kf) ∧ w'.cell? ⟨w.heap.size, 1, none⟩ = some (.slice af nf cf) ∧ w'.cell? ⟨w.heap.size + 1, 0, none⟩ = some (.int .i64 1) ∧ w'.cell? ⟨w.heap.size + 1, 1, none⟩ = some (.slice at' 0 ct))) (S1 := (fun _ => True)) (by kernel_rfl) (HS0.out _ (below_drew _)) (trivial) (fun hS0 => ?_)
  refine takeL0 (i := 0) (v := ?vq1) rfl rfl (by kernel_rfl) (by kernel_rfl) (by kernel_rfl) (by decide) (by kernel_rfl) (by kernel_rfl) (fun _ _ _ h => h) (Or.inl ⟨by rfl, ?hyq1⟩) (by assumption) ?_
  case hyq1 => (intro w hSw; (try dsimp only at hSw); go_simp; (try with_reducible rfl))
  try simp only [Act.put, List.setIfInBounds_toArray, List.set_cons_zero, List.set_cons_succ]
  refine takeL0 (i := 1) (v := ?vq2) rfl rfl (by kernel_rfl) (by kernel_rfl) (by kernel_rfl) (by decide) (by kernel_rfl) (by kernel_rfl) (fun _ _ _ h => h) (Or.inl ⟨by rfl, ?hyq2⟩) (by assumption) ?_
  case hyq2 => (intro w hSw; (try dsimp only at hSw); go_simp; (try with_reducible rfl))
  try simp only [Act.put, List.setIfInBounds_toArray, List.set_cons_zero, List.set_cons_succ]
  refine takeL0 (i := 2) (v := ?vq3) rfl rfl (by kernel_rfl) (by kernel_rfl) (by kernel_rfl) (by decide) (by kernel_rfl) (by kernel_rfl) (fun _ _ _ h => h) (Or.inl ⟨by rfl, ?hyq3⟩) (by assumption) ?_
  case hyq3 => (intro w hSw; (try dsimp only at hSw); go_simp; (try with_reducible rfl))
  try simp only [Act.put, List.setIfInBounds_toArray, List.set_cons_zero, List.set_cons_succ]
  refine takeL0 (i := 4) (v := ?vq4) rfl rfl (by kernel_rfl) (by kernel_rfl) (by kernel_rfl) (by decide) (by kernel_rfl) (by kernel_rfl) (fun _ _ _ h => h) (Or.inl ⟨by rfl, ?hyq4⟩) (by assumption) ?_
  case hyq4 => (intro w hSw; (try dsimp only at hSw); go_simp; (try with_reducible rfl))
  try simp only [Act.put, List.setIfInBounds_toArray, List.set_cons_zero, List.set_cons_succ]
  refine readyL (rs := [3]) (by kernel_rfl) (by simp) ?_
  refine AllReadyL.cons rfl (fun K hK => ?_) AllReadyL.nil
  go_simp
  refine (groundi_from (W0 := (((w.alloc (Obj.cells #[.int .i64 kf, .slice af nf cf] 25)).alloc (Obj.cells #[.int .i64 1, .slice at' 0 ct] 25)).alloc (Obj.cells #[.int .i64 0, .int .i64 0, .int .i64 0, .slice none 0 0] 30))) (below_drew _) HKB.out).mono ?_
  rintro e w1 ⟨⟨v1, g1, rfl, hat1, hf1, hb1⟩, hU1⟩
  obtain ⟨kg, ng, ag, cg, rfl⟩ := hat1.agg
  have hB1 := below_trans hU1 hb1
  refine hK.out _ _ ?_ (fun hS1 => ?_)
  · exact ⟨trivial, fun _ => HS0.out _ hB1⟩
  clear hK K hS0
  try simp only [Act.put, List.setIfInBounds_toArray, List.set_cons_zero, List.set_cons_succ]
  refine readyL (rs := [5]) (by kernel_rfl) (by simp) ?_
  refine AllReadyL.cons rfl (fun K hK => ?_) AllReadyL.nil
  go_simp
  refine (HIH.out (.mk kf fs) (gk kf) l d _ _ _ _ w1 (.inr ⟨HFU.out, rfl⟩) hd HS.out HSG.out HCG.out.1 hl1 hl2 (HX.out.below hB1) hat1).mono ?_
  rintro e w2 ⟨v2, g2, rfl, hat2, hf2, hb2⟩
  obtain ⟨p0, p1, p2, pn, pa, pc, rfl⟩ := hat2.agg
  have hB2 := below_trans hB1 hb2
  refine hK.out _ _ ?_ (fun hS2 => ?_)
  · exact ⟨trivial, fun _ => HS0.out _ hB2⟩
  clear hK K hS1
  try simp only [Act.put, List.setIfInBounds_toArray, List.set_cons_zero, List.set_cons_succ]
  refine readyL (rs := [6]) (by kernel_rfl) (by simp) ?_
  refine AllReadyL.cons rfl (fun K hK => ?_) AllReadyL.nil
  go_simp
  refine hK.out _ _ ?_ (fun hS3 => ?_)
  · exact ⟨trivial, fun _ => HS0.out _ (hB2.alloc hB2.size (Obj.cells #[.int .i64 p0, .int .i64 p1, .int .i64 p2, .slice pa pn pc] 30))⟩
  clear hK K hS2
  try simp only [Act.put, List.setIfInBounds_toArray, List.set_cons_zero, List.set_cons_succ]
  refine readyL (rs := [7]) (by kernel_rfl) (by simp) ?_
  refine AllReadyL.cons rfl (fun K hK => ?_) AllReadyL.nil
  go_simp
  refine (coercionOf_any _ _ _ _ _).mono ?_
  rintro e w3 ⟨rfl, hb3⟩
  have hB3 := below_trans (hB2.alloc hB2.size (Obj.cells #[.int .i64 p0, .int .i64 p1, .int .i64 p2, .slice pa pn pc] 30)) hb3
  refine hK.out _ _ ?_ (fun hS4 => ?_)
  · exact ⟨trivial, fun _ => HS0.out _ hB3⟩
  clear hK K hS3
  try simp only [Act.put, List.setIfInBounds_toArray, List.set_cons_zero, List.set_cons_succ]
  refine readyL (rs := [8]) (by kernel_rfl) (by simp) ?_
  refine AllReadyL.cons rfl (fun K hK => ?_) AllReadyL.nil
  have bM := HM.out _ hB3
  have z0 := (cell_of_block (o := 0) bM).trans (show _ = some (.int .i64 0) from rfl)
  have z1 := (cell_of_block (o := 1) bM).trans (show _ = some (.int .i64 0) from rfl)
  have z2 := (cell_of_block (o := 2) bM).trans (show _ = some (.int .i64 0) from rfl)
  have z3 := (cell_of_block (o := 3) bM).trans (show _ = some (.slice none 0 0) from rfl)
  have yz := fun o => frozen_of_block (o := o) bM
  go_simp
  refine hK.out _ _ ?_ (fun hS5 => ?_)
  · exact ⟨trivial, fun h => absurd (h.symm.trans (show _ = true by kernel_rfl)) (by decide)⟩
  clear hK K hS4
  try simp only [Act.put, List.setIfInBounds_toArray, List.set_cons_zero, List.set_cons_succ]
  refine doneL (by kernel_rfl) ?_ _
  have FIN := hid (close4 (w := w) (wF := w3) (M := w.heap.size + 1 + 1) (lo := w1.heap.size) (co_one (k := 4) (g := 0) (l := 0) ((hb3.block _ (lt_of_block (alloc_new w2 (Obj.cells #[.int .i64 p0, .int .i64 p1, .int .i64 p2, .slice pa pn pc] 30)))).trans (alloc_new w2 (Obj.cells #[.int .i64 p0, .int .i64 p1, .int .i64 p2, .slice pa pn pc] 30))) (hat2.below (below_trans ((Below.refl w2.heap.size w2).alloc (Nat.le_refl _) (Obj.cells #[.int .i64 p0, .int .i64 p1, .int .i64 p2, .slice pa pn pc] 30)) hb3))) (Fresh.row (hf2.below (below_trans ((Below.refl w2.heap.size w2).alloc (Nat.le_refl _) (Obj.cells #[.int .i64 p0, .int .i64 p1, .int .i64 p2, .slice pa pn pc] 30)) hb3)) ((hb3.block _ (lt_of_block (alloc_new w2 (Obj.cells #[.int .i64 p0, .int .i64 p1, .int .i64 p2, .slice pa pn pc] 30)))).trans (alloc_new w2 (Obj.cells #[.int .i64 p0, .int .i64 p1, .int .i64 p2, .slice pa pn pc] 30))) hb2.size (fun x hx => (hf2.2 x hx).2.1)) (by omega) (by have := HZ0.out; have := hB1.size; omega) (below_trans HB.out hB3))
  simp only [put4, Nat.zero_add] at FIN
  go_wp2_with fail
  exact bodyPost_ret (v := .agg #[.int .i64 4, .int .i64 0, .int .i64 0, .slice (some ⟨w2.heap.size, 0, none⟩) 1 1]) (by simp [results, Try.results39, go_sem, z0, z1, z2, z3]) rfl FIN.out
set_option maxRecDepth 100000 in
set_option maxHeartbeats 4000000 in
theorem coerce_prj (n : Nat) (ih : coerceC n) (t : Ty) (l : Int) (d : Nat) (vf vt : Value) (ff ft : List Nat) (w : World) (hk : kindT t ≠ 1) (hn : 2 * d ≤ n + 1) (hd : d ≤ 4) (hs : shp d t = true) (hl1 : -99 ≤ l) (hl2 : l ≤ 99) (hatf : (Ty.mk 1 []).At w vf ff) (hatt : t.At w vt ft) :
    Calls Try.prog 39 #[vf, vt, .int .i64 l] w (MadeC w (.mk 5 0 l [cst n (gk (kindT t)) t l])) := by
  obtain ⟨kt, ts, rfl⟩ := t.shape
  obtain ⟨sf, rfl, hsf⟩ := Ty.at_mk.1 hatf
  obtain ⟨af, cf, rfl⟩ := hsf.none'
  obtain ⟨st, rfl, hst⟩ := Ty.at_mk.1 hatt
  obtain ⟨at', ct, rfl⟩ := hst.shape
  generalize hnt : ts.length = nt at *
  have hk1 : (kt == 1) = false := by rw [beq_eq_false_iff_ne]; exact hk
  have hkk : ((1 : Int) == kt) = false := by rw [beq_eq_false_iff_ne]; exact fun e => hk (show kt = 1 from e.symm)
  have hkx : kindT (.mk kt ts) = kt := rfl
  have hb0 : Below w.heap.size w (((w.alloc (Obj.cells #[.int .i64 1, .slice af 0 cf] 25)).alloc (Obj.cells #[.int .i64 kt, .slice at' nt ct] 25)).alloc (Obj.cells #[.int .i64 0, .int .i64 0, .int .i64 0, .slice none 0 0] 30)) := (((Below.refl _ _).alloc (Nat.le_refl _) _).alloc (by simp) _).alloc (by simp; omega) _
  have hs0 : ((((w.alloc (Obj.cells #[.int .i64 1, .slice af 0 cf] 25)).alloc (Obj.cells #[.int .i64 kt, .slice at' nt ct] 25)).alloc (Obj.cells #[.int .i64 0, .int .i64 0, .int .i64 0, .slice none 0 0] 30))).heap.size = w.heap.size + 1 + 1 + 1 := by simp
  obtain ⟨bF, bG, bZ⟩ := three3 (Below.refl ((((w.alloc (Obj.cells #[.int .i64 1, .slice af 0 cf] 25)).alloc (Obj.cells #[.int .i64 kt, .slice at' nt ct] 25)).alloc (Obj.cells #[.int .i64 0, .int .i64 0, .int .i64 0, .slice none 0 0] 30))).heap.size (((w.alloc (Obj.cells #[.int .i64 1, .slice af 0 cf] 25)).alloc (Obj.cells #[.int .i64 kt, .slice at' nt ct] 25)).alloc (Obj.cells #[.int .i64 0, .int .i64 0, .int .i64 0, .slice none 0 0] 30)))
  have x0 : ((((w.alloc (Obj.cells #[.int .i64 1, .slice af 0 cf] 25)).alloc (Obj.cells #[.int .i64 kt, .slice at' nt ct] 25)).alloc (Obj.cells #[.int .i64 0, .int .i64 0, .int .i64 0, .slice none 0 0] 30))).cell? ⟨w.heap.size, 0, none⟩ = some (.int .i64 1) := by rw [cell_of_block bF]; rfl
  have x1 : ((((w.alloc (Obj.cells #[.int .i64 1, .slice af 0 cf] 25)).alloc (Obj.cells #[.int .i64 kt, .slice at' nt ct] 25)).alloc (Obj.cells #[.int .i64 0, .int .i64 0, .int .i64 0, .slice none 0 0] 30))).cell? ⟨w.heap.size, 1, none⟩ = some (.slice af 0 cf) := by rw [cell_of_block bF]; rfl
  have y0 : ((((w.alloc (Obj.cells #[.int .i64 1, .slice af 0 cf] 25)).alloc (Obj.cells #[.int .i64 kt, .slice at' nt ct] 25)).alloc (Obj.cells #[.int .i64 0, .int .i64 0, .int .i64 0, .slice none 0 0] 30))).cell? ⟨w.heap.size + 1, 0, none⟩ = some (.int .i64 kt) := by rw [cell_of_block bG]; rfl
  have y1 : ((((w.alloc (Obj.cells #[.int .i64 1, .slice af 0 cf] 25)).alloc (Obj.cells #[.int .i64 kt, .slice at' nt ct] 25)).alloc (Obj.cells #[.int .i64 0, .int .i64 0, .int .i64 0, .slice none 0 0] 30))).cell? ⟨w.heap.size + 1, 1, none⟩ = some (.slice at' nt ct) := by rw [cell_of_block bG]; rfl
  have HM := hid (fun (w' : World) (h : Below ((((w.alloc (Obj.cells #[.int .i64 1, .slice af 0 cf] 25)).alloc (Obj.cells #[.int .i64 kt, .slice at' nt ct] 25)).alloc (Obj.cells #[.int .i64 0, .int .i64 0, .int .i64 0, .slice none 0 0] 30))).heap.size (((w.alloc (Obj.cells #[.int .i64 1, .slice af 0 cf] 25)).alloc (Obj.cells #[.int .i64 kt, .slice at' nt ct] 25)).alloc (Obj.cells #[.int .i64 0, .int .i64 0, .int .i64 0, .slice none 0 0] 30)) w') => (h.block (w.heap.size + 1 + 1) (by omega)).trans bZ)
  have HB := hid hb0
  have HZ0 := hid hs0
  have HS0 := hid (show ∀ w', Below ((((w.alloc (Obj.cells #[.int .i64 1, .slice af 0 cf] 25)).alloc (Obj.cells #[.int .i64 kt, .slice at' nt ct] 25)).alloc (Obj.cells #[.int .i64 0, .int .i64 0, .int .i64 0, .slice none 0 0] 30))).heap.size (((w.alloc (Obj.cells #[.int .i64 1, .slice af 0 cf] 25)).alloc (Obj.cells #[.int .i64 kt, .slice at' nt ct] 25)).alloc (Obj.cells #[.int .i64 0, .int .i64 0, .int .i64 0, .slice none 0 0] 30)) w' → (fun w' => w'.cell? ⟨w.heap.size, 0, none⟩ = some (.int .i64 1) ∧ w'.cell? ⟨w.heap.size, 1, none⟩ = some (.slice af 0 cf) ∧ w'.cell? ⟨w.heap.size + 1, 0, none⟩ = some (.int .i64 kt) ∧ w'.cell? ⟨w.heap.size + 1, 1, none⟩ = some (.slice at' nt ct)) w' from fun w' h => ⟨cell_keep x0 h, cell_keep x1 h, cell_keep y0 h, cell_keep y1 h⟩)
  have HX := hid (hatt.below hb0)
  have HWF := hid (shp_wf hs)
  have HCN := hid (shp_cnt30 hs hd)
  have HSG := hid (shp_gk hs)
  have HCG := hid (cons_gk (shp_wf hs))
  have HS := hid hs
  have HKB := hid (wf_kind (shp_wf hs))
  have HIH := hid ih
  have HFU := hid (show 2 * d ≤ n + 1 from hn)
  rw [hkx] at *
  clear ih hb0 hs0 bF bG bZ hatf hatt hs hk hn hsf hst hnt hkx
  go_enter Try.func39, Try.ntmps39
  go_wp2_with fail
  refine regionL (s := 8) (S0 := (fun w' => w'.cell? ⟨w.heap.size, 0, none⟩ = some (.int .i64 1) ∧ w'.cell? ⟨w.heap.size, 1, none⟩ = some (.slice af 0 cf) ∧ w'.cell? ⟨w.heap.size + 1, 0, none⟩ = some (.int .i64 kt) ∧ w'.cell? ⟨w.heap.size + 1, 1, none⟩ = some (.slice at' nt ct))) (S1 := (fun _ => True)) (by kernel_rfl) (HS0.out _ (below_drew _)) (trivial) (fun hS0 => ?_)
  refine takeL0 (i := 0) (v := ?vq1) rfl rfl (by kernel_rfl) (by kernel_rfl) (by kernel_rfl) (by decide) (by kernel_rfl) (by kernel_rfl) (fun _ _ _ h => h) (Or.inl ⟨by rfl, ?hyq1⟩) (by assumption) ?_
  case hyq1 => (intro w hSw; (try dsimp only at hSw); go_simp; (try with_reducible rfl))
  try simp only [Act.put, List.setIfInBounds_toArray, List.set_cons_zero, List.set_cons_succ]
  refine takeL0 (i := 1) (v := ?vq2) rfl rfl (by kernel_rfl) (by kernel_rfl) (by kernel_rfl) (by decide) (by kernel_rfl) (by kernel_rfl) (fun _ _ _ h => h) (Or.inl ⟨by rfl, ?hyq2⟩) (by assumption) ?_
  case hyq2 => (intro w hSw; (try dsimp only at hSw); go_simp; (try with_reducible rfl))
  try simp only [Act.put, List.setIfInBounds_toArray, List.set_cons_zero, List.set_cons_succ]
  refine takeL0 (i := 2) (v := ?vq3) rfl rfl (by kernel_rfl) (by kernel_rfl) (by kernel_rfl) (by decide) (by kernel_rfl) (by kernel_rfl) (fun _ _ _ h => h) (Or.inl ⟨by rfl, ?hyq3⟩) (by assumption) ?_
  case hyq3 => (intro w hSw; (try dsimp only at hSw); go_simp; (try with_reducible rfl))
  try simp only [Act.put, List.setIfInBounds_toArray, List.set_cons_zero, List.set_cons_succ]
  refine takeL0 (i := 4) (v := ?vq4) rfl rfl (by kernel_rfl) (by kernel_rfl) (by kernel_rfl) (by decide) (by kernel_rfl) (by kernel_rfl) (fun _ _ _ h => h) (Or.inl ⟨by rfl, ?hyq4⟩) (by assumption) ?_
  case hyq4 => (intro w hSw; (try dsimp only at hSw); go_simp; (try with_reducible rfl))
  try simp only [Act.put, List.setIfInBounds_toArray, List.set_cons_zero, List.set_cons_succ]
  refine takeL0 (i := 5) (v := ?vq5) rfl rfl (by kernel_rfl) (by kernel_rfl) (by kernel_rfl) (by decide) (by kernel_rfl) (by kernel_rfl) (fun _ _ _ h => h) (Or.inl ⟨by rfl, ?hyq5⟩) (by assumption) ?_
  case hyq5 => (intro w hSw; (try dsimp only at hSw); go_simp; (try with_reducible rfl))
  try simp only [Act.put, List.setIfInBounds_toArray, List.set_cons_zero, List.set_cons_succ]
  refine readyL (rs := [3]) (by kernel_rfl) (by simp) ?_
  refine AllReadyL.cons rfl (fun K hK => ?_) AllReadyL.nil
  go_simp
  refine (groundi_from (W0 := (((w.alloc (Obj.cells #[.int .i64 1, .slice af 0 cf] 25)).alloc (Obj.cells #[.int .i64 kt, .slice at' nt ct] 25)).alloc (Obj.cells #[.int .i64 0, .int .i64 0, .int .i64 0, .slice none 0 0] 30))) (below_drew _) HKB.out).mono ?_
  rintro e w1 ⟨⟨v1, g1, rfl, hat1, hf1, hb1⟩, hU1⟩
  obtain ⟨kg, ng, ag, cg, rfl⟩ := hat1.agg
  have hB1 := below_trans hU1 hb1
  refine hK.out _ _ ?_ (fun hS1 => ?_)
  · exact ⟨trivial, fun _ => HS0.out _ hB1⟩
  clear hK K hS0
  try simp only [Act.put, List.setIfInBounds_toArray, List.set_cons_zero, List.set_cons_succ]
  refine readyL (rs := [6]) (by kernel_rfl) (by simp) ?_
  refine AllReadyL.cons rfl (fun K hK => ?_) AllReadyL.nil
  go_simp
  refine (HIH.out (gk kt) (.mk kt ts) l d _ _ _ _ w1 (.inr ⟨HFU.out, rfl⟩) hd HSG.out HS.out HCG.out.2 hl1 hl2 hat1 (HX.out.below hB1)).mono ?_
  rintro e w2 ⟨v2, g2, rfl, hat2, hf2, hb2⟩
  obtain ⟨p0, p1, p2, pn, pa, pc, rfl⟩ := hat2.agg
  have hB2 := below_trans hB1 hb2
  refine hK.out _ _ ?_ (fun hS2 => ?_)
  · exact ⟨trivial, fun _ => HS0.out _ hB2⟩
  clear hK K hS1
  try simp only [Act.put, List.setIfInBounds_toArray, List.set_cons_zero, List.set_cons_succ]
  refine readyL (rs := [7]) (by kernel_rfl) (by simp) ?_
  refine AllReadyL.cons rfl (fun K hK => ?_) AllReadyL.nil
  go_simp
  refine (projectOf_any _ _ _ _ _ _ _ _).mono ?_
  rintro e w3 ⟨b, rfl, hE3, hbb3, hb3⟩
  have hB3 := below_trans hB2 hb3
  refine hK.out _ _ ?_ (fun hS3 => ?_)
  · exact ⟨trivial, fun _ => HS0.out _ hB3⟩
  clear hK K hS2
  try simp only [Act.put, List.setIfInBounds_toArray, List.set_cons_zero, List.set_cons_succ]
  refine readyL (rs := [8]) (by kernel_rfl) (by simp) ?_
  refine AllReadyL.cons rfl (fun K hK => ?_) AllReadyL.nil
  have bM := HM.out _ hB3
  have z0 := (cell_of_block (o := 0) bM).trans (show _ = some (.int .i64 0) from rfl)
  have z1 := (cell_of_block (o := 1) bM).trans (show _ = some (.int .i64 0) from rfl)
  have z2 := (cell_of_block (o := 2) bM).trans (show _ = some (.int .i64 0) from rfl)
  have z3 := (cell_of_block (o := 3) bM).trans (show _ = some (.slice none 0 0) from rfl)
  have yz := fun o => frozen_of_block (o := o) bM
  go_simp
  refine hK.out _ _ ?_ (fun hS4 => ?_)
  · exact ⟨trivial, fun h => absurd (h.symm.trans (show _ = true by kernel_rfl)) (by decide)⟩
  clear hK K hS3
  try simp only [Act.put, List.setIfInBounds_toArray, List.set_cons_zero, List.set_cons_succ]
  refine doneL (by kernel_rfl) ?_ _
  have FIN := hid (close4 (w := w) (wF := w3) (M := w.heap.size + 1 + 1) (lo := w1.heap.size) (co_one (k := 5) (g := 0) (l := l) hE3 (hat2.below hb3)) (Fresh.row (hf2.below hb3) hE3 (Nat.le_trans hb2.size hbb3) (fun x hx => by have := (hf2.2 x hx).2.1; omega)) (by omega) (by have := HZ0.out; have := hB1.size; omega) (below_trans HB.out hB3))
  simp only [put4, Nat.zero_add] at FIN
  go_wp2_with fail
  exact bodyPost_ret (v := .agg #[.int .i64 5, .int .i64 0, .int .i64 l, .slice (some ⟨b, 0, none⟩) 1 1]) (by simp [results, Try.results39, go_sem, z0, z1, z2, z3]) rfl FIN.out
set_option maxRecDepth 100000 in
set_option maxHeartbeats 1000000 in
theorem coerce_two4 (n : Nat) (ih : coerceC n) (f1 f2 t1 t2 : Ty) (l : Int) (d : Nat) (vf vt : Value) (ff ft : List Nat) (w : World) (hn : 2 * d ≤ n) (hd : d ≤ 4) (hf1 : shp d f1 = true) (hf2 : shp d f2 = true) (ht1 : shp d t1 = true) (ht2 : shp d t2 = true) (hc1 : cons f1 t1 = true) (hc2 : cons f2 t2 = true) (hl1 : -99 ≤ l) (hl2 : l ≤ 99) (hatf : (Ty.mk 4 [f1, f2]).At w vf ff) (hatt : (Ty.mk 4 [t1, t2]).At w vt ft) :
    Calls Try.prog 39 #[vf, vt, .int .i64 l] w (MadeC w (.mk 2 0 0 [cst n t1 f1 (-l), cst n f2 t2 l])) := by
  obtain ⟨kf, hkf⟩ : ∃ kf : Int, kf = 4 := ⟨_, rfl⟩
  obtain ⟨kt, hkt⟩ : ∃ kt : Int, kt = 4 := ⟨_, rfl⟩
  rw [← hkf] at hatf
  rw [← hkt] at hatt
  obtain ⟨sf, rfl, hsf⟩ := Ty.at_mk.1 hatf
  obtain ⟨st, rfl, hst⟩ := Ty.at_mk.1 hatt
  obtain ⟨bf, of, cf, k1, n1, a1, c1, k2, n2, a2, c2, g1, g2, rfl, hbf, d0, d1, d2, d3, hX1, hX2, _, hcf⟩ := hsf.two
  obtain ⟨bt, ot, ct, k3, n3, a3, c3, k4, n4, a4, c4, g3, g4, rfl, hbt, e0, e1, e2, e3, hY1, hY2, _, hct⟩ := hst.two
  have q1 : (kf == 1) = false := by rw [hkf]; rfl
  have q2 : (kt == 1) = false := by rw [hkt]; rfl
  have q3 : (kf == 4) = true := by rw [hkf]; rfl
  have q4 : (kf == 5) = false := by rw [hkf]; rfl
  have q5 : (kf == kt) = true := by rw [hkf, hkt]; rfl
  have HWR := hid (show IntKind.i64.wrap (-l) = -l by rw [IntKind.wrap_i64]; omega)
  have hb0 : Below w.heap.size w (((w.alloc (Obj.cells #[.int .i64 kf, .slice (some ⟨bf, of, none⟩) 2 cf] 25)).alloc (Obj.cells #[.int .i64 kt, .slice (some ⟨bt, ot, none⟩) 2 ct] 25)).alloc (Obj.cells #[.int .i64 0, .int .i64 0, .int .i64 0, .slice none 0 0] 30)) := (((Below.refl _ _).alloc (Nat.le_refl _) _).alloc (by simp) _).alloc (by simp; omega) _
  have hs0 : ((((w.alloc (Obj.cells #[.int .i64 kf, .slice (some ⟨bf, of, none⟩) 2 cf] 25)).alloc (Obj.cells #[.int .i64 kt, .slice (some ⟨bt, ot, none⟩) 2 ct] 25)).alloc (Obj.cells #[.int .i64 0, .int .i64 0, .int .i64 0, .slice none 0 0] 30))).heap.size = w.heap.size + 1 + 1 + 1 := by simp
  obtain ⟨bF, bG, bZ⟩ := three3 (Below.refl ((((w.alloc (Obj.cells #[.int .i64 kf, .slice (some ⟨bf, of, none⟩) 2 cf] 25)).alloc (Obj.cells #[.int .i64 kt, .slice (some ⟨bt, ot, none⟩) 2 ct] 25)).alloc (Obj.cells #[.int .i64 0, .int .i64 0, .int .i64 0, .slice none 0 0] 30))).heap.size (((w.alloc (Obj.cells #[.int .i64 kf, .slice (some ⟨bf, of, none⟩) 2 cf] 25)).alloc (Obj.cells #[.int .i64 kt, .slice (some ⟨bt, ot, none⟩) 2 ct] 25)).alloc (Obj.cells #[.int .i64 0, .int .i64 0, .int .i64 0, .slice none 0 0] 30)))
  have x0 : ((((w.alloc (Obj.cells #[.int .i64 kf, .slice (some ⟨bf, of, none⟩) 2 cf] 25)).alloc (Obj.cells #[.int .i64 kt, .slice (some ⟨bt, ot, none⟩) 2 ct] 25)).alloc (Obj.cells #[.int .i64 0, .int .i64 0, .int .i64 0, .slice none 0 0] 30))).cell? ⟨w.heap.size, 0, none⟩ = some (.int .i64 kf) := by rw [cell_of_block bF]; rfl
  have x1 : ((((w.alloc (Obj.cells #[.int .i64 kf, .slice (some ⟨bf, of, none⟩) 2 cf] 25)).alloc (Obj.cells #[.int .i64 kt, .slice (some ⟨bt, ot, none⟩) 2 ct] 25)).alloc (Obj.cells #[.int .i64 0, .int .i64 0, .int .i64 0, .slice none 0 0] 30))).cell? ⟨w.heap.size, 1, none⟩ = some (.slice (some ⟨bf, of, none⟩) 2 cf) := by rw [cell_of_block bF]; rfl
  have y0 : ((((w.alloc (Obj.cells #[.int .i64 kf, .slice (some ⟨bf, of, none⟩) 2 cf] 25)).alloc (Obj.cells #[.int .i64 kt, .slice (some ⟨bt, ot, none⟩) 2 ct] 25)).alloc (Obj.cells #[.int .i64 0, .int .i64 0, .int .i64 0, .slice none 0 0] 30))).cell? ⟨w.heap.size + 1, 0, none⟩ = some (.int .i64 kt) := by rw [cell_of_block bG]; rfl
  have y1 : ((((w.alloc (Obj.cells #[.int .i64 kf, .slice (some ⟨bf, of, none⟩) 2 cf] 25)).alloc (Obj.cells #[.int .i64 kt, .slice (some ⟨bt, ot, none⟩) 2 ct] 25)).alloc (Obj.cells #[.int .i64 0, .int .i64 0, .int .i64 0, .slice none 0 0] 30))).cell? ⟨w.heap.size + 1, 1, none⟩ = some (.slice (some ⟨bt, ot, none⟩) 2 ct) := by rw [cell_of_block bG]; rfl
  have HM := hid (fun (w' : World) (h : Below ((((w.alloc (Obj.cells #[.int .i64 kf, .slice (some ⟨bf, of, none⟩) 2 cf] 25)).alloc (Obj.cells #[.int .i64 kt, .slice (some ⟨bt, ot, none⟩) 2 ct] 25)).alloc (Obj.cells #[.int .i64 0, .int .i64 0, .int .i64 0, .slice none 0 0] 30))).heap.size (((w.alloc (Obj.cells #[.int .i64 kf, .slice (some ⟨bf, of, none⟩) 2 cf] 25)).alloc (Obj.cells #[.int .i64 kt, .slice (some ⟨bt, ot, none⟩) 2 ct] 25)).alloc (Obj.cells #[.int .i64 0, .int .i64 0, .int .i64 0, .slice none 0 0] 30)) w') => (h.block (w.heap.size + 1 + 1) (by omega)).trans bZ)
  have HB := hid hb0
  have HZ0 := hid hs0
  have HS0 := hid (show ∀ w', Below ((((w.alloc (Obj.cells #[.int .i64 kf, .slice (some ⟨bf, of, none⟩) 2 cf] 25)).alloc (Obj.cells #[.int .i64 kt, .slice (some ⟨bt, ot, none⟩) 2 ct] 25)).alloc (Obj.cells #[.int .i64 0, .int .i64 0, .int .i64 0, .slice none 0 0] 30))).heap.size (((w.alloc (Obj.cells #[.int .i64 kf, .slice (some ⟨bf, of, none⟩) 2 cf] 25)).alloc (Obj.cells #[.int .i64 kt, .slice (some ⟨bt, ot, none⟩) 2 ct] 25)).alloc (Obj.cells #[.int .i64 0, .int .i64 0, .int .i64 0, .slice none 0 0] 30)) w' → (fun w' => w'.cell? ⟨w.heap.size, 0, none⟩ = some (.int .i64 kf) ∧ w'.cell? ⟨w.heap.size, 1, none⟩ = some (.slice (some ⟨bf, of, none⟩) 2 cf) ∧ w'.cell? ⟨w.heap.size + 1, 0, none⟩ = some (.int .i64 kt) ∧ w'.cell? ⟨w.heap.size + 1, 1, none⟩ = some (.slice (some ⟨bt, ot, none⟩) 2 ct) ∧ w'.cell? ⟨bf, of, none⟩ = some (.int .i64 k1) ∧ w'.cell? ⟨bf, of + 1, none⟩ = some (.slice a1 n1 c1) ∧ w'.cell? ⟨bf, of + 2, none⟩ = some (.int .i64 k2) ∧ w'.cell? ⟨bf, of + 2 + 1, none⟩ = some (.slice a2 n2 c2) ∧ w'.cell? ⟨bt, ot, none⟩ = some (.int .i64 k3) ∧ w'.cell? ⟨bt, ot + 1, none⟩ = some (.slice a3 n3 c3) ∧ w'.cell? ⟨bt, ot + 2, none⟩ = some (.int .i64 k4) ∧ w'.cell? ⟨bt, ot + 2 + 1, none⟩ = some (.slice a4 n4 c4)) w' from fun w' h => ⟨cell_keep x0 h, cell_keep x1 h, cell_keep y0 h, cell_keep y1 h, cell_keep (cell_keep d0 hb0) h, cell_keep (cell_keep d1 hb0) h, cell_keep (cell_keep d2 hb0) h, cell_keep (cell_keep d3 hb0) h, cell_keep (cell_keep e0 hb0) h, cell_keep (cell_keep e1 hb0) h, cell_keep (cell_keep e2 hb0) h, cell_keep (cell_keep e3 hb0) h⟩)
  have H1 := hid (And.intro (hX1.below hb0) (And.intro (hX2.below hb0) (And.intro (hY1.below hb0) (hY2.below hb0))))
  have HP := hid (And.intro hf1 (And.intro hf2 (And.intro ht1 (And.intro ht2 (And.intro (cons_symm2 hc1) (And.intro hc1 hc2))))))
  have HIH := hid ih
  have HFU := hid (show fuelOk n d f1 t1 ∧ fuelOk n d t1 f1 ∧ fuelOk n d f2 t2 from ⟨.inl hn, .inl hn, .inl hn⟩)
  clear ih hb0 hs0 bF bG bZ hatf hatt hn hsf hst hX1 hX2 hY1 hY2 d0 d1 d2 d3 e0 e1 e2 e3 hf1 hf2 ht1 ht2 hc1 hc2 hkf hkt x0 x1 y0 y1
  have hS00 := HS0.out _ (Below.refl _ _)
  obtain ⟨x0, x1, y0, y1, d0, d1, d2, d3, e0, e1, e2, e3⟩ := hS00
  go_enter Try.func39, Try.ntmps39
  go_wp2_with fail
  refine regionL (s := 11) (S0 := (fun w' => w'.cell? ⟨w.heap.size, 0, none⟩ = some (.int .i64 kf) ∧ w'.cell? ⟨w.heap.size, 1, none⟩ = some (.slice (some ⟨bf, of, none⟩) 2 cf) ∧ w'.cell? ⟨w.heap.size + 1, 0, none⟩ = some (.int .i64 kt) ∧ w'.cell? ⟨w.heap.size + 1, 1, none⟩ = some (.slice (some ⟨bt, ot, none⟩) 2 ct) ∧ w'.cell? ⟨bf, of, none⟩ = some (.int .i64 k1) ∧ w'.cell? ⟨bf, of + 1, none⟩ = some (.slice a1 n1 c1) ∧ w'.cell? ⟨bf, of + 2, none⟩ = some (.int .i64 k2) ∧ w'.cell? ⟨bf, of + 2 + 1, none⟩ = some (.slice a2 n2 c2) ∧ w'.cell? ⟨bt, ot, none⟩ = some (.int .i64 k3) ∧ w'.cell? ⟨bt, ot + 1, none⟩ = some (.slice a3 n3 c3) ∧ w'.cell? ⟨bt, ot + 2, none⟩ = some (.int .i64 k4) ∧ w'.cell? ⟨bt, ot + 2 + 1, none⟩ = some (.slice a4 n4 c4))) (S1 := (fun _ => True)) (by kernel_rfl) (HS0.out _ (below_drew _)) (trivial) (fun hS0 => ?_)
  refine takeL0 (i := 0) (v := ?vq1) rfl rfl (by kernel_rfl) (by kernel_rfl) (by kernel_rfl) (by decide) (by kernel_rfl) (by kernel_rfl) (fun _ _ _ h => h) (Or.inl ⟨by rfl, ?hyq1⟩) (by assumption) ?_
  case hyq1 => (intro w hSw; (try dsimp only at hSw); go_simp; (try with_reducible rfl))
  try simp only [Act.put, List.setIfInBounds_toArray, List.set_cons_zero, List.set_cons_succ]
  refine takeL0 (i := 1) (v := ?vq2) rfl rfl (by kernel_rfl) (by kernel_rfl) (by kernel_rfl) (by decide) (by kernel_rfl) (by kernel_rfl) (fun _ _ _ h => h) (Or.inl ⟨by rfl, ?hyq2⟩) (by assumption) ?_
  case hyq2 => (intro w hSw; (try dsimp only at hSw); go_simp; (try with_reducible rfl))
  try simp only [Act.put, List.setIfInBounds_toArray, List.set_cons_zero, List.set_cons_succ]
  refine takeL0 (i := 2) (v := ?vq3) rfl rfl (by kernel_rfl) (by kernel_rfl) (by kernel_rfl) (by decide) (by kernel_rfl) (by kernel_rfl) (fun _ _ _ h => h) (Or.inl ⟨by rfl, ?hyq3⟩) (by assumption) ?_
  case hyq3 => (intro w hSw; (try dsimp only at hSw); go_simp; (try with_reducible rfl))
  try simp only [Act.put, List.setIfInBounds_toArray, List.set_cons_zero, List.set_cons_succ]
  refine takeL0 (i := 3) (v := ?vq4) rfl rfl (by kernel_rfl) (by kernel_rfl) (by kernel_rfl) (by decide) (by kernel_rfl) (by kernel_rfl) (fun _ _ _ h => h) (Or.inl ⟨by rfl, ?hyq4⟩) (by assumption) ?_
  case hyq4 => (intro w hSw; (try dsimp only at hSw); go_simp; (try with_reducible rfl))
  try simp only [Act.put, List.setIfInBounds_toArray, List.set_cons_zero, List.set_cons_succ]
  refine takeL0 (i := 4) (v := ?vq5) rfl rfl (by kernel_rfl) (by kernel_rfl) (by kernel_rfl) (by decide) (by kernel_rfl) (by kernel_rfl) (fun _ _ _ h => h) (Or.inl ⟨by rfl, ?hyq5⟩) (by assumption) ?_
  case hyq5 => (intro w hSw; (try dsimp only at hSw); go_simp; (try with_reducible rfl))
  try simp only [Act.put, List.setIfInBounds_toArray, List.set_cons_zero, List.set_cons_succ]
  refine takeL0 (i := 5) (v := ?vq6) rfl rfl (by kernel_rfl) (by kernel_rfl) (by kernel_rfl) (by decide) (by kernel_rfl) (by kernel_rfl) (fun _ _ _ h => h) (Or.inl ⟨by rfl, ?hyq6⟩) (by assumption) ?_
  case hyq6 => (intro w hSw; (try dsimp only at hSw); go_simp; (try with_reducible rfl))
  try simp only [Act.put, List.setIfInBounds_toArray, List.set_cons_zero, List.set_cons_succ]
  refine takeL0 (i := 6) (v := ?vq7) rfl rfl (by kernel_rfl) (by kernel_rfl) (by kernel_rfl) (by decide) (by kernel_rfl) (by kernel_rfl) (fun _ _ _ h => h) (Or.inl ⟨by rfl, ?hyq7⟩) (by assumption) ?_
  case hyq7 => (intro w hSw; (try dsimp only at hSw); go_simp; (try with_reducible rfl))
  try simp only [Act.put, List.setIfInBounds_toArray, List.set_cons_zero, List.set_cons_succ]
  refine takeL0 (i := 7) (v := ?vq8) rfl rfl (by kernel_rfl) (by kernel_rfl) (by kernel_rfl) (by decide) (by kernel_rfl) (by kernel_rfl) (fun _ _ _ h => h) (Or.inl ⟨by rfl, ?hyq8⟩) (by assumption) ?_
  case hyq8 => (intro w hSw; (try dsimp only at hSw); go_simp; (try with_reducible rfl))
  try simp only [Act.put, List.setIfInBounds_toArray, List.set_cons_zero, List.set_cons_succ]
  refine takeL0 (i := 8) (v := ?vq9) rfl rfl (by kernel_rfl) (by kernel_rfl) (by kernel_rfl) (by decide) (by kernel_rfl) (by kernel_rfl) (fun _ _ _ h => h) (Or.inl ⟨by rfl, ?hyq9⟩) (by assumption) ?_
  case hyq9 => (intro w hSw; (try dsimp only at hSw); go_simp; (try with_reducible rfl))
  try simp only [Act.put, List.setIfInBounds_toArray, List.set_cons_zero, List.set_cons_succ]
  refine readyL (rs := [9, 10]) (by kernel_rfl) (by simp) ?_
  refine AllReadyL.cons rfl (fun K hK => ?_) ?_
  · go_simp
    refine (coerce_from HIH.out (W0 := (((w.alloc (Obj.cells #[.int .i64 kf, .slice (some ⟨bf, of, none⟩) 2 cf] 25)).alloc (Obj.cells #[.int .i64 kt, .slice (some ⟨bt, ot, none⟩) 2 ct] 25)).alloc (Obj.cells #[.int .i64 0, .int .i64 0, .int .i64 0, .slice none 0 0] 30))) (below_drew _) HFU.out.2.2 hd HP.out.2.1 HP.out.2.2.2.1 HP.out.2.2.2.2.2.2 hl1 hl2 H1.out.2.1 H1.out.2.2.2).mono ?_
    rintro e w1 ⟨⟨v1, r1, rfl, hat1, hr1, hb1⟩, hU1⟩
    obtain ⟨q0, q1, q2, qn, qa, qc, rfl⟩ := hat1.agg
    have hB1 := below_trans hU1 hb1
    have hr1n := hr1.mono hU1.size
    refine hK.out _ _ ?_ (fun hS1 => ?_)
    · exact ⟨trivial, fun _ => HS0.out _ hB1⟩
    clear hK K hS0
    try simp only [Act.put, List.setIfInBounds_toArray, List.set_cons_zero, List.set_cons_succ]
    refine readyL (rs := [10]) (by kernel_rfl) (by simp) ?_
    refine AllReadyL.cons rfl (fun K hK => ?_) AllReadyL.nil
    go_simp
    refine hK.out _ _ ?_ (fun hS2 => ?_)
    · exact ⟨trivial, fun _ => HS0.out _ (hB1.alloc hB1.size _)⟩
    clear hK K hS1
    try simp only [Act.put, List.setIfInBounds_toArray, List.set_cons_zero, List.set_cons_succ]
    refine readyL (rs := [11]) (by kernel_rfl) (by simp) ?_
    refine AllReadyL.cons rfl (fun K hK => ?_) AllReadyL.nil
    go_simp
    refine hK.out _ _ ?_ (fun hS3 => ?_)
    · exact ⟨trivial, fun h => absurd (h.symm.trans (show _ = true by kernel_rfl)) (by decide)⟩
    clear hK K hS2
    try simp only [Act.put, List.setIfInBounds_toArray, List.set_cons_zero, List.set_cons_succ]
    refine doneL (by kernel_rfl) ?_ _
    obtain ⟨wS, hW, hES, hatS, hrS, hBS⟩ : ∃ wS, wS = w1.alloc (Obj.cells #[.int .i64 q0, .int .i64 q1, .int .i64 q2, .slice qa qn qc] 30) ∧ wS.heap[w1.heap.size]? = some (Obj.cells #[.int .i64 q0, .int .i64 q1, .int .i64 q2, .slice qa qn qc] 30) ∧ Co.At wS (cst n f2 t2 l) (.agg #[.int .i64 q0, .int .i64 q1, .int .i64 q2, .slice qa qn qc]) r1 ∧ Fresh ((((w.alloc (Obj.cells #[.int .i64 kf, .slice (some ⟨bf, of, none⟩) 2 cf] 25)).alloc (Obj.cells #[.int .i64 kt, .slice (some ⟨bt, ot, none⟩) 2 ct] 25)).alloc (Obj.cells #[.int .i64 0, .int .i64 0, .int .i64 0, .slice none 0 0] 30))).heap.size wS r1 ∧ Below ((((w.alloc (Obj.cells #[.int .i64 kf, .slice (some ⟨bf, of, none⟩) 2 cf] 25)).alloc (Obj.cells #[.int .i64 kt, .slice (some ⟨bt, ot, none⟩) 2 ct] 25)).alloc (Obj.cells #[.int .i64 0, .int .i64 0, .int .i64 0, .slice none 0 0] 30))).heap.size ((((w.alloc (Obj.cells #[.int .i64 kf, .slice (some ⟨bf, of, none⟩) 2 cf] 25)).alloc (Obj.cells #[.int .i64 kt, .slice (some ⟨bt, ot, none⟩) 2 ct] 25)).alloc (Obj.cells #[.int .i64 0, .int .i64 0, .int .i64 0, .slice none 0 0] 30))) wS := ⟨_, rfl, alloc_new w1 (Obj.cells #[.int .i64 q0, .int .i64 q1, .int .i64 q2, .slice qa qn qc] 30), hat1.below ((Below.refl w1.heap.size w1).alloc (Nat.le_refl _) (Obj.cells #[.int .i64 q0, .int .i64 q1, .int .i64 q2, .slice qa qn qc] 30)), hr1n.below ((Below.refl w1.heap.size w1).alloc (Nat.le_refl _) (Obj.cells #[.int .i64 q0, .int .i64 q1, .int .i64 q2, .slice qa qn qc] 30)), hB1.alloc hB1.size (Obj.cells #[.int .i64 q0, .int .i64 q1, .int .i64 q2, .slice qa qn qc] 30)⟩
    rw [← hW]
    clear hW hat1 hr1 hr1n
    have HES := hid hES
    have HSS := hid (And.intro hatS (And.intro hrS hBS))
    have s0 : wS.cell? ⟨w1.heap.size, 0, none⟩ = some (.int .i64 q0) := by rw [cell_of_block hES]; rfl
    have s1 : wS.cell? ⟨w1.heap.size, 1, none⟩ = some (.int .i64 q1) := by rw [cell_of_block hES]; rfl
    have s2 : wS.cell? ⟨w1.heap.size, 2, none⟩ = some (.int .i64 q2) := by rw [cell_of_block hES]; rfl
    have s3 : wS.cell? ⟨w1.heap.size, 3, none⟩ = some (.slice qa qn qc) := by rw [cell_of_block hES]; rfl
    clear hES hatS hrS
    have hSS := HS0.out _ hBS
    clear x0 x1 y0 y1 d0 d1 d2 d3 e0 e1 e2 e3
    obtain ⟨x0, x1, y0, y1, d0, d1, d2, d3, e0, e1, e2, e3⟩ := hSS
    clear hBS
    have HS1 := hid (show ∀ w', Below wS.heap.size wS w' → (fun w' => w'.cell? ⟨w.heap.size, 0, none⟩ = some (.int .i64 kf) ∧ w'.cell? ⟨w.heap.size, 1, none⟩ = some (.slice (some ⟨bf, of, none⟩) 2 cf) ∧ w'.cell? ⟨w.heap.size + 1, 0, none⟩ = some (.int .i64 kt) ∧ w'.cell? ⟨w.heap.size + 1, 1, none⟩ = some (.slice (some ⟨bt, ot, none⟩) 2 ct) ∧ w'.cell? ⟨bf, of, none⟩ = some (.int .i64 k1) ∧ w'.cell? ⟨bf, of + 1, none⟩ = some (.slice a1 n1 c1) ∧ w'.cell? ⟨bf, of + 2, none⟩ = some (.int .i64 k2) ∧ w'.cell? ⟨bf, of + 2 + 1, none⟩ = some (.slice a2 n2 c2) ∧ w'.cell? ⟨bt, ot, none⟩ = some (.int .i64 k3) ∧ w'.cell? ⟨bt, ot + 1, none⟩ = some (.slice a3 n3 c3) ∧ w'.cell? ⟨bt, ot + 2, none⟩ = some (.int .i64 k4) ∧ w'.cell? ⟨bt, ot + 2 + 1, none⟩ = some (.slice a4 n4 c4) ∧ w'.cell? ⟨w1.heap.size, 0, none⟩ = some (.int .i64 q0) ∧ w'.cell? ⟨w1.heap.size, 1, none⟩ = some (.int .i64 q1) ∧ w'.cell? ⟨w1.heap.size, 2, none⟩ = some (.int .i64 q2) ∧ w'.cell? ⟨w1.heap.size, 3, none⟩ = some (.slice qa qn qc)) w' from fun w' h => ⟨cell_keep x0 h, cell_keep x1 h, cell_keep y0 h, cell_keep y1 h, cell_keep d0 h, cell_keep d1 h, cell_keep d2 h, cell_keep d3 h, cell_keep e0 h, cell_keep e1 h, cell_keep e2 h, cell_keep e3 h, cell_keep s0 h, cell_keep s1 h, cell_keep s2 h, cell_keep s3 h⟩)
    go_wp2_with fail
    refine regionL (s := 14) (S0 := (fun w' => w'.cell? ⟨w.heap.size, 0, none⟩ = some (.int .i64 kf) ∧ w'.cell? ⟨w.heap.size, 1, none⟩ = some (.slice (some ⟨bf, of, none⟩) 2 cf) ∧ w'.cell? ⟨w.heap.size + 1, 0, none⟩ = some (.int .i64 kt) ∧ w'.cell? ⟨w.heap.size + 1, 1, none⟩ = some (.slice (some ⟨bt, ot, none⟩) 2 ct) ∧ w'.cell? ⟨bf, of, none⟩ = some (.int .i64 k1) ∧ w'.cell? ⟨bf, of + 1, none⟩ = some (.slice a1 n1 c1) ∧ w'.cell? ⟨bf, of + 2, none⟩ = some (.int .i64 k2) ∧ w'.cell? ⟨bf, of + 2 + 1, none⟩ = some (.slice a2 n2 c2) ∧ w'.cell? ⟨bt, ot, none⟩ = some (.int .i64 k3) ∧ w'.cell? ⟨bt, ot + 1, none⟩ = some (.slice a3 n3 c3) ∧ w'.cell? ⟨bt, ot + 2, none⟩ = some (.int .i64 k4) ∧ w'.cell? ⟨bt, ot + 2 + 1, none⟩ = some (.slice a4 n4 c4) ∧ w'.cell? ⟨w1.heap.size, 0, none⟩ = some (.int .i64 q0) ∧ w'.cell? ⟨w1.heap.size, 1, none⟩ = some (.int .i64 q1) ∧ w'.cell? ⟨w1.heap.size, 2, none⟩ = some (.int .i64 q2) ∧ w'.cell? ⟨w1.heap.size, 3, none⟩ = some (.slice qa qn qc))) (S1 := (fun _ => True)) (by kernel_rfl) (HS1.out _ (below_drew _)) (trivial) (fun hS0 => ?_)
    refine takeL0 (i := 0) (v := ?vrb1) rfl rfl (by kernel_rfl) (by kernel_rfl) (by kernel_rfl) (by decide) (by kernel_rfl) (by kernel_rfl) (fun _ _ _ h => h) (Or.inl ⟨by rfl, ?hyrb1⟩) (by assumption) ?_
    case hyrb1 => (intro w hSw; (try dsimp only at hSw); go_simp; (try with_reducible rfl))
    try simp only [Act.put, List.setIfInBounds_toArray, List.set_cons_zero, List.set_cons_succ]
    refine takeL0 (i := 1) (v := ?vrb2) rfl rfl (by kernel_rfl) (by kernel_rfl) (by kernel_rfl) (by decide) (by kernel_rfl) (by kernel_rfl) (fun _ _ _ h => h) (Or.inl ⟨by rfl, ?hyrb2⟩) (by assumption) ?_
    case hyrb2 => (intro w hSw; (try dsimp only at hSw); go_simp; (try with_reducible rfl))
    try simp only [Act.put, List.setIfInBounds_toArray, List.set_cons_zero, List.set_cons_succ]
    refine takeL0 (i := 2) (v := ?vrb3) rfl rfl (by kernel_rfl) (by kernel_rfl) (by kernel_rfl) (by decide) (by kernel_rfl) (by kernel_rfl) (fun _ _ _ h => h) (Or.inl ⟨by rfl, ?hyrb3⟩) (by assumption) ?_
    case hyrb3 => (intro w hSw; (try dsimp only at hSw); go_simp; (try with_reducible rfl))
    try simp only [Act.put, List.setIfInBounds_toArray, List.set_cons_zero, List.set_cons_succ]
    refine takeL0 (i := 3) (v := ?vrb4) rfl rfl (by kernel_rfl) (by kernel_rfl) (by kernel_rfl) (by decide) (by kernel_rfl) (by kernel_rfl) (fun _ _ _ h => h) (Or.inl ⟨by rfl, ?hyrb4⟩) (by assumption) ?_
    case hyrb4 => (intro w hSw; (try dsimp only at hSw); go_simp; (try with_reducible rfl))
    try simp only [Act.put, List.setIfInBounds_toArray, List.set_cons_zero, List.set_cons_succ]
    refine takeL0 (i := 4) (v := ?vrb5) rfl rfl (by kernel_rfl) (by kernel_rfl) (by kernel_rfl) (by decide) (by kernel_rfl) (by kernel_rfl) (fun _ _ _ h => h) (Or.inl ⟨by rfl, ?hyrb5⟩) (by assumption) ?_
    case hyrb5 => (intro w hSw; (try dsimp only at hSw); go_simp; (try with_reducible rfl))
    try simp only [Act.put, List.setIfInBounds_toArray, List.set_cons_zero, List.set_cons_succ]
    refine takeL0 (i := 5) (v := ?vrb6) rfl rfl (by kernel_rfl) (by kernel_rfl) (by kernel_rfl) (by decide) (by kernel_rfl) (by kernel_rfl) (fun _ _ _ h => h) (Or.inl ⟨by rfl, ?hyrb6⟩) (by assumption) ?_
    case hyrb6 => (intro w hSw; (try dsimp only at hSw); go_simp; (try with_reducible rfl))
    try simp only [Act.put, List.setIfInBounds_toArray, List.set_cons_zero, List.set_cons_succ]
    refine takeL0 (i := 6) (v := ?vrb7) rfl rfl (by kernel_rfl) (by kernel_rfl) (by kernel_rfl) (by decide) (by kernel_rfl) (by kernel_rfl) (fun _ _ _ h => h) (Or.inl ⟨by rfl, ?hyrb7⟩) (by assumption) ?_
    case hyrb7 => (intro w hSw; (try dsimp only at hSw); go_simp; (try with_reducible rfl))
    try simp only [Act.put, List.setIfInBounds_toArray, List.set_cons_zero, List.set_cons_succ]
    refine takeL0 (i := 7) (v := ?vrb8) rfl rfl (by kernel_rfl) (by kernel_rfl) (by kernel_rfl) (by decide) (by kernel_rfl) (by kernel_rfl) (fun _ _ _ h => h) (Or.inl ⟨by rfl, ?hyrb8⟩) (by assumption) ?_
    case hyrb8 => (intro w hSw; (try dsimp only at hSw); go_simp; (try with_reducible rfl))
    try simp only [Act.put, List.setIfInBounds_toArray, List.set_cons_zero, List.set_cons_succ]
    refine takeL0 (i := 8) (v := ?vrb9) rfl rfl (by kernel_rfl) (by kernel_rfl) (by kernel_rfl) (by decide) (by kernel_rfl) (by kernel_rfl) (fun _ _ _ h => h) (Or.inl ⟨by rfl, ?hyrb9⟩) (by assumption) ?_
    case hyrb9 => (intro w hSw; (try dsimp only at hSw); go_simp; (try with_reducible rfl))
    try simp only [Act.put, List.setIfInBounds_toArray, List.set_cons_zero, List.set_cons_succ]
    refine takeL0 (i := 9) (v := ?vrb10) rfl rfl (by kernel_rfl) (by kernel_rfl) (by kernel_rfl) (by decide) (by kernel_rfl) (by kernel_rfl) (fun _ _ _ h => h) (Or.inl ⟨by rfl, ?hyrb10⟩) (by assumption) ?_
    case hyrb10 => (intro w hSw; (try dsimp only at hSw); go_simp; (try with_reducible rfl))
    try simp only [Act.put, List.setIfInBounds_toArray, List.set_cons_zero, List.set_cons_succ]
    refine takeL0 (i := 11) (v := ?vrb11) rfl rfl (by kernel_rfl) (by kernel_rfl) (by kernel_rfl) (by decide) (by kernel_rfl) (by kernel_rfl) (fun _ _ _ h => h) (Or.inl ⟨by rfl, ?hyrb11⟩) (by assumption) ?_
    case hyrb11 => (intro w hSw; (try dsimp only at hSw); go_simp; (try with_reducible rfl))
    try simp only [Act.put, List.setIfInBounds_toArray, List.set_cons_zero, List.set_cons_succ]
    refine readyL (rs := [10]) (by kernel_rfl) (by simp) ?_
    refine AllReadyL.cons rfl (fun K hK => ?_) AllReadyL.nil
    go_simp
    rw [HWR.out]
    refine (coerce_from HIH.out (W0 := wS) (l := -l) (below_drew _) HFU.out.2.1 hd HP.out.2.2.1 HP.out.1 HP.out.2.2.2.2.1 (by omega) (by omega) (H1.out.2.2.1.below HSS.out.2.2) (H1.out.1.below HSS.out.2.2)).mono ?_
    rintro e w2 ⟨⟨v2, r2, rfl, hat2, hr2, hb2⟩, hU2⟩
    obtain ⟨p0, p1, p2, pn, pa, pc, rfl⟩ := hat2.agg
    have hB2 := below_trans hU2 hb2
    have hr2n := hr2.mono hU2.size
    refine hK.out _ _ ?_ (fun hS1 => ?_)
    · exact ⟨trivial, fun _ => HS1.out _ hB2⟩
    clear hK K hS0
    try simp only [Act.put, List.setIfInBounds_toArray, List.set_cons_zero, List.set_cons_succ]
    refine readyL (rs := [12]) (by kernel_rfl) (by simp) ?_
    refine AllReadyL.cons rfl (fun K hK => ?_) AllReadyL.nil
    go_simp
    refine hK.out _ _ ?_ (fun hS2 => ?_)
    · exact ⟨trivial, fun _ => HS1.out _ (hB2.alloc hB2.size (Obj.cells #[.int .i64 p0, .int .i64 p1, .int .i64 p2, .slice pa pn pc, .int .i64 q0, .int .i64 q1, .int .i64 q2, .slice qa qn qc] 30))⟩
    clear hK K hS1
    try simp only [Act.put, List.setIfInBounds_toArray, List.set_cons_zero, List.set_cons_succ]
    refine readyL (rs := [13]) (by kernel_rfl) (by simp) ?_
    refine AllReadyL.cons rfl (fun K hK => ?_) AllReadyL.nil
    go_simp
    refine (coercionOf_any _ _ _ _ _).mono ?_
    rintro e w3 ⟨rfl, hb3⟩
    have hB3 := below_trans (hB2.alloc hB2.size (Obj.cells #[.int .i64 p0, .int .i64 p1, .int .i64 p2, .slice pa pn pc, .int .i64 q0, .int .i64 q1, .int .i64 q2, .slice qa qn qc] 30)) hb3
    refine hK.out _ _ ?_ (fun hS3 => ?_)
    · exact ⟨trivial, fun _ => HS1.out _ hB3⟩
    clear hK K hS2
    try simp only [Act.put, List.setIfInBounds_toArray, List.set_cons_zero, List.set_cons_succ]
    refine readyL (rs := [14]) (by kernel_rfl) (by simp) ?_
    refine AllReadyL.cons rfl (fun K hK => ?_) AllReadyL.nil
    have bM := HM.out _ (below_trans HSS.out.2.2 hB3)
    have z0 := (cell_of_block (o := 0) bM).trans (show _ = some (.int .i64 0) from rfl)
    have z1 := (cell_of_block (o := 1) bM).trans (show _ = some (.int .i64 0) from rfl)
    have z2 := (cell_of_block (o := 2) bM).trans (show _ = some (.int .i64 0) from rfl)
    have z3 := (cell_of_block (o := 3) bM).trans (show _ = some (.slice none 0 0) from rfl)
    have yz := fun o => frozen_of_block (o := o) bM
    go_simp
    refine hK.out _ _ ?_ (fun hS4 => ?_)
    · exact ⟨trivial, fun h => absurd (h.symm.trans (show _ = true by kernel_rfl)) (by decide)⟩
    clear hK K hS3
    try simp only [Act.put, List.setIfInBounds_toArray, List.set_cons_zero, List.set_cons_succ]
    refine doneL (by kernel_rfl) ?_ _
    have FIN := hid (close4 (w := w) (wF := w3) (M := w.heap.size + 1 + 1) (lo := ((((w.alloc (Obj.cells #[.int .i64 kf, .slice (some ⟨bf, of, none⟩) 2 cf] 25)).alloc (Obj.cells #[.int .i64 kt, .slice (some ⟨bt, ot, none⟩) 2 ct] 25)).alloc (Obj.cells #[.int .i64 0, .int .i64 0, .int .i64 0, .slice none 0 0] 30))).heap.size) (co_two (k := 2) (g := 0) (l := 0) ((hb3.block _ (lt_of_block (alloc_new w2 (Obj.cells #[.int .i64 p0, .int .i64 p1, .int .i64 p2, .slice pa pn pc, .int .i64 q0, .int .i64 q1, .int .i64 q2, .slice qa qn qc] 30)))).trans (alloc_new w2 (Obj.cells #[.int .i64 p0, .int .i64 p1, .int .i64 p2, .slice pa pn pc, .int .i64 q0, .int .i64 q1, .int .i64 q2, .slice qa qn qc] 30))) (hat2.below (below_trans ((Below.refl w2.heap.size w2).alloc (Nat.le_refl _) (Obj.cells #[.int .i64 p0, .int .i64 p1, .int .i64 p2, .slice pa pn pc, .int .i64 q0, .int .i64 q1, .int .i64 q2, .slice qa qn qc] 30)) hb3)) ((HSS.out.1.below hB2).below (below_trans ((Below.refl w2.heap.size w2).alloc (Nat.le_refl _) (Obj.cells #[.int .i64 p0, .int .i64 p1, .int .i64 p2, .slice pa pn pc, .int .i64 q0, .int .i64 q1, .int .i64 q2, .slice qa qn qc] 30)) hb3))) (Fresh.row (((HSS.out.2.1.append hr2n (Nat.le_refl _) HSS.out.2.2.size hB2).comm).below (below_trans ((Below.refl w2.heap.size w2).alloc (Nat.le_refl _) (Obj.cells #[.int .i64 p0, .int .i64 p1, .int .i64 p2, .slice pa pn pc, .int .i64 q0, .int .i64 q1, .int .i64 q2, .slice qa qn qc] 30)) hb3)) ((hb3.block _ (lt_of_block (alloc_new w2 (Obj.cells #[.int .i64 p0, .int .i64 p1, .int .i64 p2, .slice pa pn pc, .int .i64 q0, .int .i64 q1, .int .i64 q2, .slice qa qn qc] 30)))).trans (alloc_new w2 (Obj.cells #[.int .i64 p0, .int .i64 p1, .int .i64 p2, .slice pa pn pc, .int .i64 q0, .int .i64 q1, .int .i64 q2, .slice qa qn qc] 30))) (Nat.le_trans HSS.out.2.2.size hB2.size) (fun x hx => (((HSS.out.2.1.append hr2n (Nat.le_refl _) HSS.out.2.2.size hB2).comm).2 x hx).2.1)) (by omega) (by have := HZ0.out; omega) (below_trans HB.out (below_trans HSS.out.2.2 hB3)))
    simp only [put4, Nat.zero_add] at FIN
    go_wp2_with fail
    exact bodyPost_ret (v := .agg #[.int .i64 2, .int .i64 0, .int .i64 0, .slice (some ⟨w2.heap.size, 0, none⟩) 2 2]) (by simp [results, Try.results39, go_sem, z0, z1, z2, z3]) rfl FIN.out
  refine AllReadyL.cons rfl (fun K hK => ?_) AllReadyL.nil
  go_simp
  refine hK.out _ _ ?_ (fun hS1 => ?_)
  · exact ⟨trivial, fun _ => HS0.out _ ((below_drew _).alloc (by simp) _)⟩
  clear hK K hS0
  try simp only [Act.put, List.setIfInBounds_toArray, List.set_cons_zero, List.set_cons_succ]
  refine readyL (rs := [9]) (by kernel_rfl) (by simp) ?_
  refine AllReadyL.cons rfl (fun K hK => ?_) AllReadyL.nil
  go_simp
  refine (coerce_from HIH.out (W0 := (((w.alloc (Obj.cells #[.int .i64 kf, .slice (some ⟨bf, of, none⟩) 2 cf] 25)).alloc (Obj.cells #[.int .i64 kt, .slice (some ⟨bt, ot, none⟩) 2 ct] 25)).alloc (Obj.cells #[.int .i64 0, .int .i64 0, .int .i64 0, .slice none 0 0] 30))) (((Below.refl ((((w.alloc (Obj.cells #[.int .i64 kf, .slice (some ⟨bf, of, none⟩) 2 cf] 25)).alloc (Obj.cells #[.int .i64 kt, .slice (some ⟨bt, ot, none⟩) 2 ct] 25)).alloc (Obj.cells #[.int .i64 0, .int .i64 0, .int .i64 0, .slice none 0 0] 30))).heap.size (((w.alloc (Obj.cells #[.int .i64 kf, .slice (some ⟨bf, of, none⟩) 2 cf] 25)).alloc (Obj.cells #[.int .i64 kt, .slice (some ⟨bt, ot, none⟩) 2 ct] 25)).alloc (Obj.cells #[.int .i64 0, .int .i64 0, .int .i64 0, .slice none 0 0] 30))).alloc (Nat.le_refl _) (Obj.cells #[.int .i64 0, .int .i64 0, .int .i64 0, .slice none 0 0] 30)).drew) HFU.out.2.2 hd HP.out.2.1 HP.out.2.2.2.1 HP.out.2.2.2.2.2.2 hl1 hl2 H1.out.2.1 H1.out.2.2.2).mono ?_
  rintro e w1 ⟨⟨v1, r1, rfl, hat1, hr1, hb1⟩, hU1⟩
  obtain ⟨q0, q1, q2, qn, qa, qc, rfl⟩ := hat1.agg
  have hB1 := below_trans hU1 hb1
  have hr1n := hr1.mono hU1.size
  refine hK.out _ _ ?_ (fun hS2 => ?_)
  · exact ⟨trivial, fun _ => HS0.out _ hB1⟩
  clear hK K hS1
  try simp only [Act.put, List.setIfInBounds_toArray, List.set_cons_zero, List.set_cons_succ]
  refine readyL (rs := [11]) (by kernel_rfl) (by simp) ?_
  refine AllReadyL.cons rfl (fun K hK => ?_) AllReadyL.nil
  have hE0 := alloc_new ((((w.alloc (Obj.cells #[.int .i64 kf, .slice (some ⟨bf, of, none⟩) 2 cf] 25)).alloc (Obj.cells #[.int .i64 kt, .slice (some ⟨bt, ot, none⟩) 2 ct] 25)).alloc (Obj.cells #[.int .i64 0, .int .i64 0, .int .i64 0, .slice none 0 0] 30))) (Obj.cells #[.int .i64 0, .int .i64 0, .int .i64 0, .slice none 0 0] 30)
  rw [HZ0.out] at hE0
  have hE1 := (hb1.block _ (lt_of_block hE0)).trans hE0
  have bM := hE1
  have z0 := (cell_of_block (o := 0) bM).trans (show _ = some (.int .i64 0) from rfl)
  have z1 := (cell_of_block (o := 1) bM).trans (show _ = some (.int .i64 0) from rfl)
  have z2 := (cell_of_block (o := 2) bM).trans (show _ = some (.int .i64 0) from rfl)
  have z3 := (cell_of_block (o := 3) bM).trans (show _ = some (.slice none 0 0) from rfl)
  have yz := fun o => frozen_of_block (o := o) bM
  go_simp
  clear z0 z1 z2 z3 yz
  refine hK.out _ _ ?_ (fun hS3 => ?_)
  · exact ⟨trivial, fun h => absurd (h.symm.trans (show _ = true by kernel_rfl)) (by decide)⟩
  clear hK K hS2
  try simp only [Act.put, List.setIfInBounds_toArray, List.set_cons_zero, List.set_cons_succ]
  refine doneL (by kernel_rfl) ?_ _
  obtain ⟨wS, hW, hES, hatS, hrS, hBS⟩ := sec_close (W := (((w.alloc (Obj.cells #[.int .i64 kf, .slice (some ⟨bf, of, none⟩) 2 cf] 25)).alloc (Obj.cells #[.int .i64 kt, .slice (some ⟨bt, ot, none⟩) 2 ct] 25)).alloc (Obj.cells #[.int .i64 0, .int .i64 0, .int .i64 0, .slice none 0 0] 30))) hE1 hat1 hr1n (fun y hy e => by have h1 := (hr1.2 y hy).1; have h2 : w.heap.size + 1 + 1 + 1 + 1 ≤ y := by { have h3 := HZ0.out; simpa [World.drew] using h1 }; omega) (by have := HZ0.out; omega) hB1
  simp only [put4, Nat.zero_add] at hW
  rw [← hW]
  clear hW hat1 hr1 hr1n
  have HES := hid hES
  have HSS := hid (And.intro hatS (And.intro hrS hBS))
  have s0 : wS.cell? ⟨w.heap.size + 1 + 1 + 1, 0, none⟩ = some (.int .i64 q0) := by rw [cell_of_block hES]; rfl
  have s1 : wS.cell? ⟨w.heap.size + 1 + 1 + 1, 1, none⟩ = some (.int .i64 q1) := by rw [cell_of_block hES]; rfl
  have s2 : wS.cell? ⟨w.heap.size + 1 + 1 + 1, 2, none⟩ = some (.int .i64 q2) := by rw [cell_of_block hES]; rfl
  have s3 : wS.cell? ⟨w.heap.size + 1 + 1 + 1, 3, none⟩ = some (.slice qa qn qc) := by rw [cell_of_block hES]; rfl
  clear hES hatS hrS
  have hSS := HS0.out _ hBS
  clear x0 x1 y0 y1 d0 d1 d2 d3 e0 e1 e2 e3
  obtain ⟨x0, x1, y0, y1, d0, d1, d2, d3, e0, e1, e2, e3⟩ := hSS
  clear hBS
  have HS1 := hid (show ∀ w', Below wS.heap.size wS w' → (fun w' => w'.cell? ⟨w.heap.size, 0, none⟩ = some (.int .i64 kf) ∧ w'.cell? ⟨w.heap.size, 1, none⟩ = some (.slice (some ⟨bf, of, none⟩) 2 cf) ∧ w'.cell? ⟨w.heap.size + 1, 0, none⟩ = some (.int .i64 kt) ∧ w'.cell? ⟨w.heap.size + 1, 1, none⟩ = some (.slice (some ⟨bt, ot, none⟩) 2 ct) ∧ w'.cell? ⟨bf, of, none⟩ = some (.int .i64 k1) ∧ w'.cell? ⟨bf, of + 1, none⟩ = some (.slice a1 n1 c1) ∧ w'.cell? ⟨bf, of + 2, none⟩ = some (.int .i64 k2) ∧ w'.cell? ⟨bf, of + 2 + 1, none⟩ = some (.slice a2 n2 c2) ∧ w'.cell? ⟨bt, ot, none⟩ = some (.int .i64 k3) ∧ w'.cell? ⟨bt, ot + 1, none⟩ = some (.slice a3 n3 c3) ∧ w'.cell? ⟨bt, ot + 2, none⟩ = some (.int .i64 k4) ∧ w'.cell? ⟨bt, ot + 2 + 1, none⟩ = some (.slice a4 n4 c4) ∧ w'.cell? ⟨w.heap.size + 1 + 1 + 1, 0, none⟩ = some (.int .i64 q0) ∧ w'.cell? ⟨w.heap.size + 1 + 1 + 1, 1, none⟩ = some (.int .i64 q1) ∧ w'.cell? ⟨w.heap.size + 1 + 1 + 1, 2, none⟩ = some (.int .i64 q2) ∧ w'.cell? ⟨w.heap.size + 1 + 1 + 1, 3, none⟩ = some (.slice qa qn qc)) w' from fun w' h => ⟨cell_keep x0 h, cell_keep x1 h, cell_keep y0 h, cell_keep y1 h, cell_keep d0 h, cell_keep d1 h, cell_keep d2 h, cell_keep d3 h, cell_keep e0 h, cell_keep e1 h, cell_keep e2 h, cell_keep e3 h, cell_keep s0 h, cell_keep s1 h, cell_keep s2 h, cell_keep s3 h⟩)
  go_wp2_with fail
  refine regionL (s := 14) (S0 := (fun w' => w'.cell? ⟨w.heap.size, 0, none⟩ = some (.int .i64 kf) ∧ w'.cell? ⟨w.heap.size, 1, none⟩ = some (.slice (some ⟨bf, of, none⟩) 2 cf) ∧ w'.cell? ⟨w.heap.size + 1, 0, none⟩ = some (.int .i64 kt) ∧ w'.cell? ⟨w.heap.size + 1, 1, none⟩ = some (.slice (some ⟨bt, ot, none⟩) 2 ct) ∧ w'.cell? ⟨bf, of, none⟩ = some (.int .i64 k1) ∧ w'.cell? ⟨bf, of + 1, none⟩ = some (.slice a1 n1 c1) ∧ w'.cell? ⟨bf, of + 2, none⟩ = some (.int .i64 k2) ∧ w'.cell? ⟨bf, of + 2 + 1, none⟩ = some (.slice a2 n2 c2) ∧ w'.cell? ⟨bt, ot, none⟩ = some (.int .i64 k3) ∧ w'.cell? ⟨bt, ot + 1, none⟩ = some (.slice a3 n3 c3) ∧ w'.cell? ⟨bt, ot + 2, none⟩ = some (.int .i64 k4) ∧ w'.cell? ⟨bt, ot + 2 + 1, none⟩ = some (.slice a4 n4 c4) ∧ w'.cell? ⟨w.heap.size + 1 + 1 + 1, 0, none⟩ = some (.int .i64 q0) ∧ w'.cell? ⟨w.heap.size + 1 + 1 + 1, 1, none⟩ = some (.int .i64 q1) ∧ w'.cell? ⟨w.heap.size + 1 + 1 + 1, 2, none⟩ = some (.int .i64 q2) ∧ w'.cell? ⟨w.heap.size + 1 + 1 + 1, 3, none⟩ = some (.slice qa qn qc))) (S1 := (fun _ => True)) (by kernel_rfl) (HS1.out _ (below_drew _)) (trivial) (fun hS0 => ?_)
  refine takeL0 (i := 0) (v := ?vra1) rfl rfl (by kernel_rfl) (by kernel_rfl) (by kernel_rfl) (by decide) (by kernel_rfl) (by kernel_rfl) (fun _ _ _ h => h) (Or.inl ⟨by rfl, ?hyra1⟩) (by assumption) ?_
  case hyra1 => (intro w hSw; (try dsimp only at hSw); go_simp; (try with_reducible rfl))
  try simp only [Act.put, List.setIfInBounds_toArray, List.set_cons_zero, List.set_cons_succ]
  refine takeL0 (i := 1) (v := ?vra2) rfl rfl (by kernel_rfl) (by kernel_rfl) (by kernel_rfl) (by decide) (by kernel_rfl) (by kernel_rfl) (fun _ _ _ h => h) (Or.inl ⟨by rfl, ?hyra2⟩) (by assumption) ?_
  case hyra2 => (intro w hSw; (try dsimp only at hSw); go_simp; (try with_reducible rfl))
  try simp only [Act.put, List.setIfInBounds_toArray, List.set_cons_zero, List.set_cons_succ]
  refine takeL0 (i := 2) (v := ?vra3) rfl rfl (by kernel_rfl) (by kernel_rfl) (by kernel_rfl) (by decide) (by kernel_rfl) (by kernel_rfl) (fun _ _ _ h => h) (Or.inl ⟨by rfl, ?hyra3⟩) (by assumption) ?_
  case hyra3 => (intro w hSw; (try dsimp only at hSw); go_simp; (try with_reducible rfl))
  try simp only [Act.put, List.setIfInBounds_toArray, List.set_cons_zero, List.set_cons_succ]
  refine takeL0 (i := 3) (v := ?vra4) rfl rfl (by kernel_rfl) (by kernel_rfl) (by kernel_rfl) (by decide) (by kernel_rfl) (by kernel_rfl) (fun _ _ _ h => h) (Or.inl ⟨by rfl, ?hyra4⟩) (by assumption) ?_
  case hyra4 => (intro w hSw; (try dsimp only at hSw); go_simp; (try with_reducible rfl))
  try simp only [Act.put, List.setIfInBounds_toArray, List.set_cons_zero, List.set_cons_succ]
  refine takeL0 (i := 4) (v := ?vra5) rfl rfl (by kernel_rfl) (by kernel_rfl) (by kernel_rfl) (by decide) (by kernel_rfl) (by kernel_rfl) (fun _ _ _ h => h) (Or.inl ⟨by rfl, ?hyra5⟩) (by assumption) ?_
  case hyra5 => (intro w hSw; (try dsimp only at hSw); go_simp; (try with_reducible rfl))
  try simp only [Act.put, List.setIfInBounds_toArray, List.set_cons_zero, List.set_cons_succ]
  refine takeL0 (i := 5) (v := ?vra6) rfl rfl (by kernel_rfl) (by kernel_rfl) (by kernel_rfl) (by decide) (by kernel_rfl) (by kernel_rfl) (fun _ _ _ h => h) (Or.inl ⟨by rfl, ?hyra6⟩) (by assumption) ?_
  case hyra6 => (intro w hSw; (try dsimp only at hSw); go_simp; (try with_reducible rfl))
  try simp only [Act.put, List.setIfInBounds_toArray, List.set_cons_zero, List.set_cons_succ]
  refine takeL0 (i := 6) (v := ?vra7) rfl rfl (by kernel_rfl) (by kernel_rfl) (by kernel_rfl) (by decide) (by kernel_rfl) (by kernel_rfl) (fun _ _ _ h => h) (Or.inl ⟨by rfl, ?hyra7⟩) (by assumption) ?_
  case hyra7 => (intro w hSw; (try dsimp only at hSw); go_simp; (try with_reducible rfl))
  try simp only [Act.put, List.setIfInBounds_toArray, List.set_cons_zero, List.set_cons_succ]
  refine takeL0 (i := 7) (v := ?vra8) rfl rfl (by kernel_rfl) (by kernel_rfl) (by kernel_rfl) (by decide) (by kernel_rfl) (by kernel_rfl) (fun _ _ _ h => h) (Or.inl ⟨by rfl, ?hyra8⟩) (by assumption) ?_
  case hyra8 => (intro w hSw; (try dsimp only at hSw); go_simp; (try with_reducible rfl))
  try simp only [Act.put, List.setIfInBounds_toArray, List.set_cons_zero, List.set_cons_succ]
  refine takeL0 (i := 8) (v := ?vra9) rfl rfl (by kernel_rfl) (by kernel_rfl) (by kernel_rfl) (by decide) (by kernel_rfl) (by kernel_rfl) (fun _ _ _ h => h) (Or.inl ⟨by rfl, ?hyra9⟩) (by assumption) ?_
  case hyra9 => (intro w hSw; (try dsimp only at hSw); go_simp; (try with_reducible rfl))
  try simp only [Act.put, List.setIfInBounds_toArray, List.set_cons_zero, List.set_cons_succ]
  refine takeL0 (i := 9) (v := ?vra10) rfl rfl (by kernel_rfl) (by kernel_rfl) (by kernel_rfl) (by decide) (by kernel_rfl) (by kernel_rfl) (fun _ _ _ h => h) (Or.inl ⟨by rfl, ?hyra10⟩) (by assumption) ?_
  case hyra10 => (intro w hSw; (try dsimp only at hSw); go_simp; (try with_reducible rfl))
  try simp only [Act.put, List.setIfInBounds_toArray, List.set_cons_zero, List.set_cons_succ]
  refine takeL0 (i := 11) (v := ?vra11) rfl rfl (by kernel_rfl) (by kernel_rfl) (by kernel_rfl) (by decide) (by kernel_rfl) (by kernel_rfl) (fun _ _ _ h => h) (Or.inl ⟨by rfl, ?hyra11⟩) (by assumption) ?_
  case hyra11 => (intro w hSw; (try dsimp only at hSw); go_simp; (try with_reducible rfl))
  try simp only [Act.put, List.setIfInBounds_toArray, List.set_cons_zero, List.set_cons_succ]
  refine readyL (rs := [10]) (by kernel_rfl) (by simp) ?_
  refine AllReadyL.cons rfl (fun K hK => ?_) AllReadyL.nil
  go_simp
  rw [HWR.out]
  refine (coerce_from HIH.out (W0 := wS) (l := -l) (below_drew _) HFU.out.2.1 hd HP.out.2.2.1 HP.out.1 HP.out.2.2.2.2.1 (by omega) (by omega) (H1.out.2.2.1.below HSS.out.2.2) (H1.out.1.below HSS.out.2.2)).mono ?_
  rintro e w2 ⟨⟨v2, r2, rfl, hat2, hr2, hb2⟩, hU2⟩
  obtain ⟨p0, p1, p2, pn, pa, pc, rfl⟩ := hat2.agg
  have hB2 := below_trans hU2 hb2
  have hr2n := hr2.mono hU2.size
  refine hK.out _ _ ?_ (fun hS1 => ?_)
  · exact ⟨trivial, fun _ => HS1.out _ hB2⟩
  clear hK K hS0
  try simp only [Act.put, List.setIfInBounds_toArray, List.set_cons_zero, List.set_cons_succ]
  refine readyL (rs := [12]) (by kernel_rfl) (by simp) ?_
  refine AllReadyL.cons rfl (fun K hK => ?_) AllReadyL.nil
  go_simp
  refine hK.out _ _ ?_ (fun hS2 => ?_)
  · exact ⟨trivial, fun _ => HS1.out _ (hB2.alloc hB2.size (Obj.cells #[.int .i64 p0, .int .i64 p1, .int .i64 p2, .slice pa pn pc, .int .i64 q0, .int .i64 q1, .int .i64 q2, .slice qa qn qc] 30))⟩
  clear hK K hS1
  try simp only [Act.put, List.setIfInBounds_toArray, List.set_cons_zero, List.set_cons_succ]
  refine readyL (rs := [13]) (by kernel_rfl) (by simp) ?_
  refine AllReadyL.cons rfl (fun K hK => ?_) AllReadyL.nil
  go_simp
  refine (coercionOf_any _ _ _ _ _).mono ?_
  rintro e w3 ⟨rfl, hb3⟩
  have hB3 := below_trans (hB2.alloc hB2.size (Obj.cells #[.int .i64 p0, .int .i64 p1, .int .i64 p2, .slice pa pn pc, .int .i64 q0, .int .i64 q1, .int .i64 q2, .slice qa qn qc] 30)) hb3
  refine hK.out _ _ ?_ (fun hS3 => ?_)
  · exact ⟨trivial, fun _ => HS1.out _ hB3⟩
  clear hK K hS2
  try simp only [Act.put, List.setIfInBounds_toArray, List.set_cons_zero, List.set_cons_succ]
  refine readyL (rs := [14]) (by kernel_rfl) (by simp) ?_
  refine AllReadyL.cons rfl (fun K hK => ?_) AllReadyL.nil
  have bM := HM.out _ (below_trans HSS.out.2.2 hB3)
  have z0 := (cell_of_block (o := 0) bM).trans (show _ = some (.int .i64 0) from rfl)
  have z1 := (cell_of_block (o := 1) bM).trans (show _ = some (.int .i64 0) from rfl)
  have z2 := (cell_of_block (o := 2) bM).trans (show _ = some (.int .i64 0) from rfl)
  have z3 := (cell_of_block (o := 3) bM).trans (show _ = some (.slice none 0 0) from rfl)
  have yz := fun o => frozen_of_block (o := o) bM
  go_simp
  refine hK.out _ _ ?_ (fun hS4 => ?_)
  · exact ⟨trivial, fun h => absurd (h.symm.trans (show _ = true by kernel_rfl)) (by decide)⟩
  clear hK K hS3
  try simp only [Act.put, List.setIfInBounds_toArray, List.set_cons_zero, List.set_cons_succ]
  refine doneL (by kernel_rfl) ?_ _
  have FIN := hid (close4 (w := w) (wF := w3) (M := w.heap.size + 1 + 1) (lo := ((((w.alloc (Obj.cells #[.int .i64 kf, .slice (some ⟨bf, of, none⟩) 2 cf] 25)).alloc (Obj.cells #[.int .i64 kt, .slice (some ⟨bt, ot, none⟩) 2 ct] 25)).alloc (Obj.cells #[.int .i64 0, .int .i64 0, .int .i64 0, .slice none 0 0] 30))).heap.size) (co_two (k := 2) (g := 0) (l := 0) ((hb3.block _ (lt_of_block (alloc_new w2 (Obj.cells #[.int .i64 p0, .int .i64 p1, .int .i64 p2, .slice pa pn pc, .int .i64 q0, .int .i64 q1, .int .i64 q2, .slice qa qn qc] 30)))).trans (alloc_new w2 (Obj.cells #[.int .i64 p0, .int .i64 p1, .int .i64 p2, .slice pa pn pc, .int .i64 q0, .int .i64 q1, .int .i64 q2, .slice qa qn qc] 30))) (hat2.below (below_trans ((Below.refl w2.heap.size w2).alloc (Nat.le_refl _) (Obj.cells #[.int .i64 p0, .int .i64 p1, .int .i64 p2, .slice pa pn pc, .int .i64 q0, .int .i64 q1, .int .i64 q2, .slice qa qn qc] 30)) hb3)) ((HSS.out.1.below hB2).below (below_trans ((Below.refl w2.heap.size w2).alloc (Nat.le_refl _) (Obj.cells #[.int .i64 p0, .int .i64 p1, .int .i64 p2, .slice pa pn pc, .int .i64 q0, .int .i64 q1, .int .i64 q2, .slice qa qn qc] 30)) hb3))) (Fresh.row (((HSS.out.2.1.append hr2n (Nat.le_refl _) HSS.out.2.2.size hB2).comm).below (below_trans ((Below.refl w2.heap.size w2).alloc (Nat.le_refl _) (Obj.cells #[.int .i64 p0, .int .i64 p1, .int .i64 p2, .slice pa pn pc, .int .i64 q0, .int .i64 q1, .int .i64 q2, .slice qa qn qc] 30)) hb3)) ((hb3.block _ (lt_of_block (alloc_new w2 (Obj.cells #[.int .i64 p0, .int .i64 p1, .int .i64 p2, .slice pa pn pc, .int .i64 q0, .int .i64 q1, .int .i64 q2, .slice qa qn qc] 30)))).trans (alloc_new w2 (Obj.cells #[.int .i64 p0, .int .i64 p1, .int .i64 p2, .slice pa pn pc, .int .i64 q0, .int .i64 q1, .int .i64 q2, .slice qa qn qc] 30))) (Nat.le_trans HSS.out.2.2.size hB2.size) (fun x hx => (((HSS.out.2.1.append hr2n (Nat.le_refl _) HSS.out.2.2.size hB2).comm).2 x hx).2.1)) (by omega) (by have := HZ0.out; omega) (below_trans HB.out (below_trans HSS.out.2.2 hB3)))
  simp only [put4, Nat.zero_add] at FIN
  go_wp2_with fail
  exact bodyPost_ret (v := .agg #[.int .i64 2, .int .i64 0, .int .i64 0, .slice (some ⟨w2.heap.size, 0, none⟩) 2 2]) (by simp [results, Try.results39, go_sem, z0, z1, z2, z3]) rfl FIN.out
set_option maxRecDepth 100000 in
set_option maxHeartbeats 1000000 in
theorem coerce_two5 (n : Nat) (ih : coerceC n) (f1 f2 t1 t2 : Ty) (l : Int) (d : Nat) (vf vt : Value) (ff ft : List Nat) (w : World) (hn : 2 * d ≤ n) (hd : d ≤ 4) (hf1 : shp d f1 = true) (hf2 : shp d f2 = true) (ht1 : shp d t1 = true) (ht2 : shp d t2 = true) (hc1 : cons f1 t1 = true) (hc2 : cons f2 t2 = true) (hl1 : -99 ≤ l) (hl2 : l ≤ 99) (hatf : (Ty.mk 5 [f1, f2]).At w vf ff) (hatt : (Ty.mk 5 [t1, t2]).At w vt ft) :
    Calls Try.prog 39 #[vf, vt, .int .i64 l] w (MadeC w (.mk 3 0 0 [cst n f1 t1 l, cst n f2 t2 l])) := by
  obtain ⟨kf, hkf⟩ : ∃ kf : Int, kf = 5 := ⟨_, rfl⟩
  obtain ⟨kt, hkt⟩ : ∃ kt : Int, kt = 5 := ⟨_, rfl⟩
  rw [← hkf] at hatf
  rw [← hkt] at hatt
  obtain ⟨sf, rfl, hsf⟩ := Ty.at_mk.1 hatf
  obtain ⟨st, rfl, hst⟩ := Ty.at_mk.1 hatt
  obtain ⟨bf, of, cf, k1, n1, a1, c1, k2, n2, a2, c2, g1, g2, rfl, hbf, d0, d1, d2, d3, hX1, hX2, _, hcf⟩ := hsf.two
  obtain ⟨bt, ot, ct, k3, n3, a3, c3, k4, n4, a4, c4, g3, g4, rfl, hbt, e0, e1, e2, e3, hY1, hY2, _, hct⟩ := hst.two
  have q1 : (kf == 1) = false := by rw [hkf]; rfl
  have q2 : (kt == 1) = false := by rw [hkt]; rfl
  have q3 : (kf == 4) = false := by rw [hkf]; rfl
  have q4 : (kf == 5) = true := by rw [hkf]; rfl
  have q5 : (kf == kt) = true := by rw [hkf, hkt]; rfl
  have HWR := hid (show IntKind.i64.wrap (-l) = -l by rw [IntKind.wrap_i64]; omega)
  have hb0 : Below w.heap.size w (((w.alloc (Obj.cells #[.int .i64 kf, .slice (some ⟨bf, of, none⟩) 2 cf] 25)).alloc (Obj.cells #[.int .i64 kt, .slice (some ⟨bt, ot, none⟩) 2 ct] 25)).alloc (Obj.cells #[.int .i64 0, .int .i64 0, .int .i64 0, .slice none 0 0] 30)) := (((Below.refl _ _).alloc (Nat.le_refl _) _).alloc (by simp) _).alloc (by simp; omega) _
  have hs0 : ((((w.alloc (Obj.cells #[.int .i64 kf, .slice (some ⟨bf, of, none⟩) 2 cf] 25)).alloc (Obj.cells #[.int .i64 kt, .slice (some ⟨bt, ot, none⟩) 2 ct] 25)).alloc (Obj.cells #[.int .i64 0, .int .i64 0, .int .i64 0, .slice none 0 0] 30))).heap.size = w.heap.size + 1 + 1 + 1 := by simp
  obtain ⟨bF, bG, bZ⟩ := three3 (Below.refl ((((w.alloc (Obj.cells #[.int .i64 kf, .slice (some ⟨bf, of, none⟩) 2 cf] 25)).alloc (Obj.cells #[.int .i64 kt, .slice (some ⟨bt, ot, none⟩) 2 ct] 25)).alloc (Obj.cells #[.int .i64 0, .int .i64 0, .int .i64 0, .slice none 0 0] 30))).heap.size (((w.alloc (Obj.cells #[.int .i64 kf, .slice (some ⟨bf, of, none⟩) 2 cf] 25)).alloc (Obj.cells #[.int .i64 kt, .slice (some ⟨bt, ot, none⟩) 2 ct] 25)).alloc (Obj.cells #[.int .i64 0, .int .i64 0, .int .i64 0, .slice none 0 0] 30)))
  have x0 : ((((w.alloc (Obj.cells #[.int .i64 kf, .slice (some ⟨bf, of, none⟩) 2 cf] 25)).alloc (Obj.cells #[.int .i64 kt, .slice (some ⟨bt, ot, none⟩) 2 ct] 25)).alloc (Obj.cells #[.int .i64 0, .int .i64 0, .int .i64 0, .slice none 0 0] 30))).cell? ⟨w.heap.size, 0, none⟩ = some (.int .i64 kf) := by rw [cell_of_block bF]; rfl
  have x1 : ((((w.alloc (Obj.cells #[.int .i64 kf, .slice (some ⟨bf, of, none⟩) 2 cf] 25)).alloc (Obj.cells #[.int .i64 kt, .slice (some ⟨bt, ot, none⟩) 2 ct] 25)).alloc (Obj.cells #[.int .i64 0, .int .i64 0, .int .i64 0, .slice none 0 0] 30))).cell? ⟨w.heap.size, 1, none⟩ = some (.slice (some ⟨bf, of, none⟩) 2 cf) := by rw [cell_of_block bF]; rfl
  have y0 : ((((w.alloc (Obj.cells #[.int .i64 kf, .slice (some ⟨bf, of, none⟩) 2 cf] 25)).alloc (Obj.cells #[.int .i64 kt, .slice (some ⟨bt, ot, none⟩) 2 ct] 25)).alloc (Obj.cells #[.int .i64 0, .int .i64 0, .int .i64 0, .slice none 0 0] 30))).cell? ⟨w.heap.size + 1, 0, none⟩ = some (.int .i64 kt) := by rw [cell_of_block bG]; rfl
  have y1 : ((((w.alloc (Obj.cells #[.int .i64 kf, .slice (some ⟨bf, of, none⟩) 2 cf] 25)).alloc (Obj.cells #[.int .i64 kt, .slice (some ⟨bt, ot, none⟩) 2 ct] 25)).alloc (Obj.cells #[.int .i64 0, .int .i64 0, .int .i64 0, .slice none 0 0] 30))).cell? ⟨w.heap.size + 1, 1, none⟩ = some (.slice (some ⟨bt, ot, none⟩) 2 ct) := by rw [cell_of_block bG]; rfl
  have HM := hid (fun (w' : World) (h : Below ((((w.alloc (Obj.cells #[.int .i64 kf, .slice (some ⟨bf, of, none⟩) 2 cf] 25)).alloc (Obj.cells #[.int .i64 kt, .slice (some ⟨bt, ot, none⟩) 2 ct] 25)).alloc (Obj.cells #[.int .i64 0, .int .i64 0, .int .i64 0, .slice none 0 0] 30))).heap.size (((w.alloc (Obj.cells #[.int .i64 kf, .slice (some ⟨bf, of, none⟩) 2 cf] 25)).alloc (Obj.cells #[.int .i64 kt, .slice (some ⟨bt, ot, none⟩) 2 ct] 25)).alloc (Obj.cells #[.int .i64 0, .int .i64 0, .int .i64 0, .slice none 0 0] 30)) w') => (h.block (w.heap.size + 1 + 1) (by omega)).trans bZ)
  have HB := hid hb0
  have HZ0 := hid hs0
  have HS0 := hid (show ∀ w', Below ((((w.alloc (Obj.cells #[.int .i64 kf, .slice (some ⟨bf, of, none⟩) 2 cf] 25)).alloc (Obj.cells #[.int .i64 kt, .slice (some ⟨bt, ot, none⟩) 2 ct] 25)).alloc (Obj.cells #[.int .i64 0, .int .i64 0, .int .i64 0, .slice none 0 0] 30))).heap.size (((w.alloc (Obj.cells #[.int .i64 kf, .slice (some ⟨bf, of, none⟩) 2 cf] 25)).alloc (Obj.cells #[.int .i64 kt, .slice (some ⟨bt, ot, none⟩) 2 ct] 25)).alloc (Obj.cells #[.int .i64 0, .int .i64 0, .int .i64 0, .slice none 0 0] 30)) w' → (fun w' => w'.cell? ⟨w.heap.size, 0, none⟩ = some (.int .i64 kf) ∧ w'.cell? ⟨w.heap.size, 1, none⟩ = some (.slice (some ⟨bf, of, none⟩) 2 cf) ∧ w'.cell? ⟨w.heap.size + 1, 0, none⟩ = some (.int .i64 kt) ∧ w'.cell? ⟨w.heap.size + 1, 1, none⟩ = some (.slice (some ⟨bt, ot, none⟩) 2 ct) ∧ w'.cell? ⟨bf, of, none⟩ = some (.int .i64 k1) ∧ w'.cell? ⟨bf, of + 1, none⟩ = some (.slice a1 n1 c1) ∧ w'.cell? ⟨bf, of + 2, none⟩ = some (.int .i64 k2) ∧ w'.cell? ⟨bf, of + 2 + 1, none⟩ = some (.slice a2 n2 c2) ∧ w'.cell? ⟨bt, ot, none⟩ = some (.int .i64 k3) ∧ w'.cell? ⟨bt, ot + 1, none⟩ = some (.slice a3 n3 c3) ∧ w'.cell? ⟨bt, ot + 2, none⟩ = some (.int .i64 k4) ∧ w'.cell? ⟨bt, ot + 2 + 1, none⟩ = some (.slice a4 n4 c4)) w' from fun w' h => ⟨cell_keep x0 h, cell_keep x1 h, cell_keep y0 h, cell_keep y1 h, cell_keep (cell_keep d0 hb0) h, cell_keep (cell_keep d1 hb0) h, cell_keep (cell_keep d2 hb0) h, cell_keep (cell_keep d3 hb0) h, cell_keep (cell_keep e0 hb0) h, cell_keep (cell_keep e1 hb0) h, cell_keep (cell_keep e2 hb0) h, cell_keep (cell_keep e3 hb0) h⟩)
  have H1 := hid (And.intro (hX1.below hb0) (And.intro (hX2.below hb0) (And.intro (hY1.below hb0) (hY2.below hb0))))
  have HP := hid (And.intro hf1 (And.intro hf2 (And.intro ht1 (And.intro ht2 (And.intro (cons_symm2 hc1) (And.intro hc1 hc2))))))
  have HIH := hid ih
  have HFU := hid (show fuelOk n d f1 t1 ∧ fuelOk n d t1 f1 ∧ fuelOk n d f2 t2 from ⟨.inl hn, .inl hn, .inl hn⟩)
  clear ih hb0 hs0 bF bG bZ hatf hatt hn hsf hst hX1 hX2 hY1 hY2 d0 d1 d2 d3 e0 e1 e2 e3 hf1 hf2 ht1 ht2 hc1 hc2 hkf hkt x0 x1 y0 y1
  have hS00 := HS0.out _ (Below.refl _ _)
  obtain ⟨x0, x1, y0, y1, d0, d1, d2, d3, e0, e1, e2, e3⟩ := hS00
  go_enter Try.func39, Try.ntmps39
  go_wp2_with fail
  refine regionL (s := 11) (S0 := (fun w' => w'.cell? ⟨w.heap.size, 0, none⟩ = some (.int .i64 kf) ∧ w'.cell? ⟨w.heap.size, 1, none⟩ = some (.slice (some ⟨bf, of, none⟩) 2 cf) ∧ w'.cell? ⟨w.heap.size + 1, 0, none⟩ = some (.int .i64 kt) ∧ w'.cell? ⟨w.heap.size + 1, 1, none⟩ = some (.slice (some ⟨bt, ot, none⟩) 2 ct) ∧ w'.cell? ⟨bf, of, none⟩ = some (.int .i64 k1) ∧ w'.cell? ⟨bf, of + 1, none⟩ = some (.slice a1 n1 c1) ∧ w'.cell? ⟨bf, of + 2, none⟩ = some (.int .i64 k2) ∧ w'.cell? ⟨bf, of + 2 + 1, none⟩ = some (.slice a2 n2 c2) ∧ w'.cell? ⟨bt, ot, none⟩ = some (.int .i64 k3) ∧ w'.cell? ⟨bt, ot + 1, none⟩ = some (.slice a3 n3 c3) ∧ w'.cell? ⟨bt, ot + 2, none⟩ = some (.int .i64 k4) ∧ w'.cell? ⟨bt, ot + 2 + 1, none⟩ = some (.slice a4 n4 c4))) (S1 := (fun _ => True)) (by kernel_rfl) (HS0.out _ (below_drew _)) (trivial) (fun hS0 => ?_)
  refine takeL0 (i := 0) (v := ?vq1) rfl rfl (by kernel_rfl) (by kernel_rfl) (by kernel_rfl) (by decide) (by kernel_rfl) (by kernel_rfl) (fun _ _ _ h => h) (Or.inl ⟨by rfl, ?hyq1⟩) (by assumption) ?_
  case hyq1 => (intro w hSw; (try dsimp only at hSw); go_simp; (try with_reducible rfl))
  try simp only [Act.put, List.setIfInBounds_toArray, List.set_cons_zero, List.set_cons_succ]
  refine takeL0 (i := 1) (v := ?vq2) rfl rfl (by kernel_rfl) (by kernel_rfl) (by kernel_rfl) (by decide) (by kernel_rfl) (by kernel_rfl) (fun _ _ _ h => h) (Or.inl ⟨by rfl, ?hyq2⟩) (by assumption) ?_
  case hyq2 => (intro w hSw; (try dsimp only at hSw); go_simp; (try with_reducible rfl))
  try simp only [Act.put, List.setIfInBounds_toArray, List.set_cons_zero, List.set_cons_succ]
  refine takeL0 (i := 2) (v := ?vq3) rfl rfl (by kernel_rfl) (by kernel_rfl) (by kernel_rfl) (by decide) (by kernel_rfl) (by kernel_rfl) (fun _ _ _ h => h) (Or.inl ⟨by rfl, ?hyq3⟩) (by assumption) ?_
  case hyq3 => (intro w hSw; (try dsimp only at hSw); go_simp; (try with_reducible rfl))
  try simp only [Act.put, List.setIfInBounds_toArray, List.set_cons_zero, List.set_cons_succ]
  refine takeL0 (i := 3) (v := ?vq4) rfl rfl (by kernel_rfl) (by kernel_rfl) (by kernel_rfl) (by decide) (by kernel_rfl) (by kernel_rfl) (fun _ _ _ h => h) (Or.inl ⟨by rfl, ?hyq4⟩) (by assumption) ?_
  case hyq4 => (intro w hSw; (try dsimp only at hSw); go_simp; (try with_reducible rfl))
  try simp only [Act.put, List.setIfInBounds_toArray, List.set_cons_zero, List.set_cons_succ]
  refine takeL0 (i := 4) (v := ?vq5) rfl rfl (by kernel_rfl) (by kernel_rfl) (by kernel_rfl) (by decide) (by kernel_rfl) (by kernel_rfl) (fun _ _ _ h => h) (Or.inl ⟨by rfl, ?hyq5⟩) (by assumption) ?_
  case hyq5 => (intro w hSw; (try dsimp only at hSw); go_simp; (try with_reducible rfl))
  try simp only [Act.put, List.setIfInBounds_toArray, List.set_cons_zero, List.set_cons_succ]
  refine takeL0 (i := 5) (v := ?vq6) rfl rfl (by kernel_rfl) (by kernel_rfl) (by kernel_rfl) (by decide) (by kernel_rfl) (by kernel_rfl) (fun _ _ _ h => h) (Or.inl ⟨by rfl, ?hyq6⟩) (by assumption) ?_
  case hyq6 => (intro w hSw; (try dsimp only at hSw); go_simp; (try with_reducible rfl))
  try simp only [Act.put, List.setIfInBounds_toArray, List.set_cons_zero, List.set_cons_succ]
  refine takeL0 (i := 6) (v := ?vq7) rfl rfl (by kernel_rfl) (by kernel_rfl) (by kernel_rfl) (by decide) (by kernel_rfl) (by kernel_rfl) (fun _ _ _ h => h) (Or.inl ⟨by rfl, ?hyq7⟩) (by assumption) ?_
  case hyq7 => (intro w hSw; (try dsimp only at hSw); go_simp; (try with_reducible rfl))
  try simp only [Act.put, List.setIfInBounds_toArray, List.set_cons_zero, List.set_cons_succ]
  refine takeL0 (i := 7) (v := ?vq8) rfl rfl (by kernel_rfl) (by kernel_rfl) (by kernel_rfl) (by decide) (by kernel_rfl) (by kernel_rfl) (fun _ _ _ h => h) (Or.inl ⟨by rfl, ?hyq8⟩) (by assumption) ?_
  case hyq8 => (intro w hSw; (try dsimp only at hSw); go_simp; (try with_reducible rfl))
  try simp only [Act.put, List.setIfInBounds_toArray, List.set_cons_zero, List.set_cons_succ]
  refine takeL0 (i := 8) (v := ?vq9) rfl rfl (by kernel_rfl) (by kernel_rfl) (by kernel_rfl) (by decide) (by kernel_rfl) (by kernel_rfl) (fun _ _ _ h => h) (Or.inl ⟨by rfl, ?hyq9⟩) (by assumption) ?_
  case hyq9 => (intro w hSw; (try dsimp only at hSw); go_simp; (try with_reducible rfl))
  try simp only [Act.put, List.setIfInBounds_toArray, List.set_cons_zero, List.set_cons_succ]
  refine readyL (rs := [9, 10]) (by kernel_rfl) (by simp) ?_
  refine AllReadyL.cons rfl (fun K hK => ?_) ?_
  · go_simp
    refine (coerce_from HIH.out (W0 := (((w.alloc (Obj.cells #[.int .i64 kf, .slice (some ⟨bf, of, none⟩) 2 cf] 25)).alloc (Obj.cells #[.int .i64 kt, .slice (some ⟨bt, ot, none⟩) 2 ct] 25)).alloc (Obj.cells #[.int .i64 0, .int .i64 0, .int .i64 0, .slice none 0 0] 30))) (below_drew _) HFU.out.2.2 hd HP.out.2.1 HP.out.2.2.2.1 HP.out.2.2.2.2.2.2 hl1 hl2 H1.out.2.1 H1.out.2.2.2).mono ?_
    rintro e w1 ⟨⟨v1, r1, rfl, hat1, hr1, hb1⟩, hU1⟩
    obtain ⟨q0, q1, q2, qn, qa, qc, rfl⟩ := hat1.agg
    have hB1 := below_trans hU1 hb1
    have hr1n := hr1.mono hU1.size
    refine hK.out _ _ ?_ (fun hS1 => ?_)
    · exact ⟨trivial, fun _ => HS0.out _ hB1⟩
    clear hK K hS0
    try simp only [Act.put, List.setIfInBounds_toArray, List.set_cons_zero, List.set_cons_succ]
    refine readyL (rs := [10]) (by kernel_rfl) (by simp) ?_
    refine AllReadyL.cons rfl (fun K hK => ?_) AllReadyL.nil
    go_simp
    refine hK.out _ _ ?_ (fun hS2 => ?_)
    · exact ⟨trivial, fun _ => HS0.out _ (hB1.alloc hB1.size _)⟩
    clear hK K hS1
    try simp only [Act.put, List.setIfInBounds_toArray, List.set_cons_zero, List.set_cons_succ]
    refine readyL (rs := [11]) (by kernel_rfl) (by simp) ?_
    refine AllReadyL.cons rfl (fun K hK => ?_) AllReadyL.nil
    go_simp
    refine hK.out _ _ ?_ (fun hS3 => ?_)
    · exact ⟨trivial, fun h => absurd (h.symm.trans (show _ = true by kernel_rfl)) (by decide)⟩
    clear hK K hS2
    try simp only [Act.put, List.setIfInBounds_toArray, List.set_cons_zero, List.set_cons_succ]
    refine doneL (by kernel_rfl) ?_ _
    obtain ⟨wS, hW, hES, hatS, hrS, hBS⟩ : ∃ wS, wS = w1.alloc (Obj.cells #[.int .i64 q0, .int .i64 q1, .int .i64 q2, .slice qa qn qc] 30) ∧ wS.heap[w1.heap.size]? = some (Obj.cells #[.int .i64 q0, .int .i64 q1, .int .i64 q2, .slice qa qn qc] 30) ∧ Co.At wS (cst n f2 t2 l) (.agg #[.int .i64 q0, .int .i64 q1, .int .i64 q2, .slice qa qn qc]) r1 ∧ Fresh ((((w.alloc (Obj.cells #[.int .i64 kf, .slice (some ⟨bf, of, none⟩) 2 cf] 25)).alloc (Obj.cells #[.int .i64 kt, .slice (some ⟨bt, ot, none⟩) 2 ct] 25)).alloc (Obj.cells #[.int .i64 0, .int .i64 0, .int .i64 0, .slice none 0 0] 30))).heap.size wS r1 ∧ Below ((((w.alloc (Obj.cells #[.int .i64 kf, .slice (some ⟨bf, of, none⟩) 2 cf] 25)).alloc (Obj.cells #[.int .i64 kt, .slice (some ⟨bt, ot, none⟩) 2 ct] 25)).alloc (Obj.cells #[.int .i64 0, .int .i64 0, .int .i64 0, .slice none 0 0] 30))).heap.size ((((w.alloc (Obj.cells #[.int .i64 kf, .slice (some ⟨bf, of, none⟩) 2 cf] 25)).alloc (Obj.cells #[.int .i64 kt, .slice (some ⟨bt, ot, none⟩) 2 ct] 25)).alloc (Obj.cells #[.int .i64 0, .int .i64 0, .int .i64 0, .slice none 0 0] 30))) wS := ⟨_, rfl, alloc_new w1 (Obj.cells #[.int .i64 q0, .int .i64 q1, .int .i64 q2, .slice qa qn qc] 30), hat1.below ((Below.refl w1.heap.size w1).alloc (Nat.le_refl _) (Obj.cells #[.int .i64 q0, .int .i64 q1, .int .i64 q2, .slice qa qn qc] 30)), hr1n.below ((Below.refl w1.heap.size w1).alloc (Nat.le_refl _) (Obj.cells #[.int .i64 q0, .int .i64 q1, .int .i64 q2, .slice qa qn qc] 30)), hB1.alloc hB1.size (Obj.cells #[.int .i64 q0, .int .i64 q1, .int .i64 q2, .slice qa qn qc] 30)⟩
    rw [← hW]
    clear hW hat1 hr1 hr1n
    have HES := hid hES
    have HSS := hid (And.intro hatS (And.intro hrS hBS))
    have s0 : wS.cell? ⟨w1.heap.size, 0, none⟩ = some (.int .i64 q0) := by rw [cell_of_block hES]; rfl
    have s1 : wS.cell? ⟨w1.heap.size, 1, none⟩ = some (.int .i64 q1) := by rw [cell_of_block hES]; rfl
    have s2 : wS.cell? ⟨w1.heap.size, 2, none⟩ = some (.int .i64 q2) := by rw [cell_of_block hES]; rfl
    have s3 : wS.cell? ⟨w1.heap.size, 3, none⟩ = some (.slice qa qn qc) := by rw [cell_of_block hES]; rfl
    clear hES hatS hrS
    have hSS := HS0.out _ hBS
    clear x0 x1 y0 y1 d0 d1 d2 d3 e0 e1 e2 e3
    obtain ⟨x0, x1, y0, y1, d0, d1, d2, d3, e0, e1, e2, e3⟩ := hSS
    clear hBS
    have HS1 := hid (show ∀ w', Below wS.heap.size wS w' → (fun w' => w'.cell? ⟨w.heap.size, 0, none⟩ = some (.int .i64 kf) ∧ w'.cell? ⟨w.heap.size, 1, none⟩ = some (.slice (some ⟨bf, of, none⟩) 2 cf) ∧ w'.cell? ⟨w.heap.size + 1, 0, none⟩ = some (.int .i64 kt) ∧ w'.cell? ⟨w.heap.size + 1, 1, none⟩ = some (.slice (some ⟨bt, ot, none⟩) 2 ct) ∧ w'.cell? ⟨bf, of, none⟩ = some (.int .i64 k1) ∧ w'.cell? ⟨bf, of + 1, none⟩ = some (.slice a1 n1 c1) ∧ w'.cell? ⟨bf, of + 2, none⟩ = some (.int .i64 k2) ∧ w'.cell? ⟨bf, of + 2 + 1, none⟩ = some (.slice a2 n2 c2) ∧ w'.cell? ⟨bt, ot, none⟩ = some (.int .i64 k3) ∧ w'.cell? ⟨bt, ot + 1, none⟩ = some (.slice a3 n3 c3) ∧ w'.cell? ⟨bt, ot + 2, none⟩ = some (.int .i64 k4) ∧ w'.cell? ⟨bt, ot + 2 + 1, none⟩ = some (.slice a4 n4 c4) ∧ w'.cell? ⟨w1.heap.size, 0, none⟩ = some (.int .i64 q0) ∧ w'.cell? ⟨w1.heap.size, 1, none⟩ = some (.int .i64 q1) ∧ w'.cell? ⟨w1.heap.size, 2, none⟩ = some (.int .i64 q2) ∧ w'.cell? ⟨w1.heap.size, 3, none⟩ = some (.slice qa qn qc)) w' from fun w' h => ⟨cell_keep x0 h, cell_keep x1 h, cell_keep y0 h, cell_keep y1 h, cell_keep d0 h, cell_keep d1 h, cell_keep d2 h, cell_keep d3 h, cell_keep e0 h, cell_keep e1 h, cell_keep e2 h, cell_keep e3 h, cell_keep s0 h, cell_keep s1 h, cell_keep s2 h, cell_keep s3 h⟩)
    go_wp2_with fail
    refine regionL (s := 13) (S0 := (fun w' => w'.cell? ⟨w.heap.size, 0, none⟩ = some (.int .i64 kf) ∧ w'.cell? ⟨w.heap.size, 1, none⟩ = some (.slice (some ⟨bf, of, none⟩) 2 cf) ∧ w'.cell? ⟨w.heap.size + 1, 0, none⟩ = some (.int .i64 kt) ∧ w'.cell? ⟨w.heap.size + 1, 1, none⟩ = some (.slice (some ⟨bt, ot, none⟩) 2 ct) ∧ w'.cell? ⟨bf, of, none⟩ = some (.int .i64 k1) ∧ w'.cell? ⟨bf, of + 1, none⟩ = some (.slice a1 n1 c1) ∧ w'.cell? ⟨bf, of + 2, none⟩ = some (.int .i64 k2) ∧ w'.cell? ⟨bf, of + 2 + 1, none⟩ = some (.slice a2 n2 c2) ∧ w'.cell? ⟨bt, ot, none⟩ = some (.int .i64 k3) ∧ w'.cell? ⟨bt, ot + 1, none⟩ = some (.slice a3 n3 c3) ∧ w'.cell? ⟨bt, ot + 2, none⟩ = some (.int .i64 k4) ∧ w'.cell? ⟨bt, ot + 2 + 1, none⟩ = some (.slice a4 n4 c4) ∧ w'.cell? ⟨w1.heap.size, 0, none⟩ = some (.int .i64 q0) ∧ w'.cell? ⟨w1.heap.size, 1, none⟩ = some (.int .i64 q1) ∧ w'.cell? ⟨w1.heap.size, 2, none⟩ = some (.int .i64 q2) ∧ w'.cell? ⟨w1.heap.size, 3, none⟩ = some (.slice qa qn qc))) (S1 := (fun _ => True)) (by kernel_rfl) (HS1.out _ (below_drew _)) (trivial) (fun hS0 => ?_)
    refine takeL0 (i := 0) (v := ?vrb1) rfl rfl (by kernel_rfl) (by kernel_rfl) (by kernel_rfl) (by decide) (by kernel_rfl) (by kernel_rfl) (fun _ _ _ h => h) (Or.inl ⟨by rfl, ?hyrb1⟩) (by assumption) ?_
    case hyrb1 => (intro w hSw; (try dsimp only at hSw); go_simp; (try with_reducible rfl))
    try simp only [Act.put, List.setIfInBounds_toArray, List.set_cons_zero, List.set_cons_succ]
    refine takeL0 (i := 1) (v := ?vrb2) rfl rfl (by kernel_rfl) (by kernel_rfl) (by kernel_rfl) (by decide) (by kernel_rfl) (by kernel_rfl) (fun _ _ _ h => h) (Or.inl ⟨by rfl, ?hyrb2⟩) (by assumption) ?_
    case hyrb2 => (intro w hSw; (try dsimp only at hSw); go_simp; (try with_reducible rfl))
    try simp only [Act.put, List.setIfInBounds_toArray, List.set_cons_zero, List.set_cons_succ]
    refine takeL0 (i := 2) (v := ?vrb3) rfl rfl (by kernel_rfl) (by kernel_rfl) (by kernel_rfl) (by decide) (by kernel_rfl) (by kernel_rfl) (fun _ _ _ h => h) (Or.inl ⟨by rfl, ?hyrb3⟩) (by assumption) ?_
    case hyrb3 => (intro w hSw; (try dsimp only at hSw); go_simp; (try with_reducible rfl))
    try simp only [Act.put, List.setIfInBounds_toArray, List.set_cons_zero, List.set_cons_succ]
    refine takeL0 (i := 3) (v := ?vrb4) rfl rfl (by kernel_rfl) (by kernel_rfl) (by kernel_rfl) (by decide) (by kernel_rfl) (by kernel_rfl) (fun _ _ _ h => h) (Or.inl ⟨by rfl, ?hyrb4⟩) (by assumption) ?_
    case hyrb4 => (intro w hSw; (try dsimp only at hSw); go_simp; (try with_reducible rfl))
    try simp only [Act.put, List.setIfInBounds_toArray, List.set_cons_zero, List.set_cons_succ]
    refine takeL0 (i := 4) (v := ?vrb5) rfl rfl (by kernel_rfl) (by kernel_rfl) (by kernel_rfl) (by decide) (by kernel_rfl) (by kernel_rfl) (fun _ _ _ h => h) (Or.inl ⟨by rfl, ?hyrb5⟩) (by assumption) ?_
    case hyrb5 => (intro w hSw; (try dsimp only at hSw); go_simp; (try with_reducible rfl))
    try simp only [Act.put, List.setIfInBounds_toArray, List.set_cons_zero, List.set_cons_succ]
    refine takeL0 (i := 5) (v := ?vrb6) rfl rfl (by kernel_rfl) (by kernel_rfl) (by kernel_rfl) (by decide) (by kernel_rfl) (by kernel_rfl) (fun _ _ _ h => h) (Or.inl ⟨by rfl, ?hyrb6⟩) (by assumption) ?_
    case hyrb6 => (intro w hSw; (try dsimp only at hSw); go_simp; (try with_reducible rfl))
    try simp only [Act.put, List.setIfInBounds_toArray, List.set_cons_zero, List.set_cons_succ]
    refine takeL0 (i := 6) (v := ?vrb7) rfl rfl (by kernel_rfl) (by kernel_rfl) (by kernel_rfl) (by decide) (by kernel_rfl) (by kernel_rfl) (fun _ _ _ h => h) (Or.inl ⟨by rfl, ?hyrb7⟩) (by assumption) ?_
    case hyrb7 => (intro w hSw; (try dsimp only at hSw); go_simp; (try with_reducible rfl))
    try simp only [Act.put, List.setIfInBounds_toArray, List.set_cons_zero, List.set_cons_succ]
    refine takeL0 (i := 7) (v := ?vrb8) rfl rfl (by kernel_rfl) (by kernel_rfl) (by kernel_rfl) (by decide) (by kernel_rfl) (by kernel_rfl) (fun _ _ _ h => h) (Or.inl ⟨by rfl, ?hyrb8⟩) (by assumption) ?_
    case hyrb8 => (intro w hSw; (try dsimp only at hSw); go_simp; (try with_reducible rfl))
    try simp only [Act.put, List.setIfInBounds_toArray, List.set_cons_zero, List.set_cons_succ]
    refine takeL0 (i := 8) (v := ?vrb9) rfl rfl (by kernel_rfl) (by kernel_rfl) (by kernel_rfl) (by decide) (by kernel_rfl) (by kernel_rfl) (fun _ _ _ h => h) (Or.inl ⟨by rfl, ?hyrb9⟩) (by assumption) ?_
    case hyrb9 => (intro w hSw; (try dsimp only at hSw); go_simp; (try with_reducible rfl))
    try simp only [Act.put, List.setIfInBounds_toArray, List.set_cons_zero, List.set_cons_succ]
    refine takeL0 (i := 10) (v := ?vrb10) rfl rfl (by kernel_rfl) (by kernel_rfl) (by kernel_rfl) (by decide) (by kernel_rfl) (by kernel_rfl) (fun _ _ _ h => h) (Or.inl ⟨by rfl, ?hyrb10⟩) (by assumption) ?_
    case hyrb10 => (intro w hSw; (try dsimp only at hSw); go_simp; (try with_reducible rfl))
    try simp only [Act.put, List.setIfInBounds_toArray, List.set_cons_zero, List.set_cons_succ]
    refine readyL (rs := [9]) (by kernel_rfl) (by simp) ?_
    refine AllReadyL.cons rfl (fun K hK => ?_) AllReadyL.nil
    go_simp
    refine (coerce_from HIH.out (W0 := wS) (l := l) (below_drew _) HFU.out.1 hd HP.out.1 HP.out.2.2.1 HP.out.2.2.2.2.2.1 hl1 hl2 (H1.out.1.below HSS.out.2.2) (H1.out.2.2.1.below HSS.out.2.2)).mono ?_
    rintro e w2 ⟨⟨v2, r2, rfl, hat2, hr2, hb2⟩, hU2⟩
    obtain ⟨p0, p1, p2, pn, pa, pc, rfl⟩ := hat2.agg
    have hB2 := below_trans hU2 hb2
    have hr2n := hr2.mono hU2.size
    refine hK.out _ _ ?_ (fun hS1 => ?_)
    · exact ⟨trivial, fun _ => HS1.out _ hB2⟩
    clear hK K hS0
    try simp only [Act.put, List.setIfInBounds_toArray, List.set_cons_zero, List.set_cons_succ]
    refine readyL (rs := [11]) (by kernel_rfl) (by simp) ?_
    refine AllReadyL.cons rfl (fun K hK => ?_) AllReadyL.nil
    go_simp
    refine hK.out _ _ ?_ (fun hS2 => ?_)
    · exact ⟨trivial, fun _ => HS1.out _ (hB2.alloc hB2.size (Obj.cells #[.int .i64 p0, .int .i64 p1, .int .i64 p2, .slice pa pn pc, .int .i64 q0, .int .i64 q1, .int .i64 q2, .slice qa qn qc] 30))⟩
    clear hK K hS1
    try simp only [Act.put, List.setIfInBounds_toArray, List.set_cons_zero, List.set_cons_succ]
    refine readyL (rs := [12]) (by kernel_rfl) (by simp) ?_
    refine AllReadyL.cons rfl (fun K hK => ?_) AllReadyL.nil
    go_simp
    refine (coercionOf_any _ _ _ _ _).mono ?_
    rintro e w3 ⟨rfl, hb3⟩
    have hB3 := below_trans (hB2.alloc hB2.size (Obj.cells #[.int .i64 p0, .int .i64 p1, .int .i64 p2, .slice pa pn pc, .int .i64 q0, .int .i64 q1, .int .i64 q2, .slice qa qn qc] 30)) hb3
    refine hK.out _ _ ?_ (fun hS3 => ?_)
    · exact ⟨trivial, fun _ => HS1.out _ hB3⟩
    clear hK K hS2
    try simp only [Act.put, List.setIfInBounds_toArray, List.set_cons_zero, List.set_cons_succ]
    refine readyL (rs := [13]) (by kernel_rfl) (by simp) ?_
    refine AllReadyL.cons rfl (fun K hK => ?_) AllReadyL.nil
    have bM := HM.out _ (below_trans HSS.out.2.2 hB3)
    have z0 := (cell_of_block (o := 0) bM).trans (show _ = some (.int .i64 0) from rfl)
    have z1 := (cell_of_block (o := 1) bM).trans (show _ = some (.int .i64 0) from rfl)
    have z2 := (cell_of_block (o := 2) bM).trans (show _ = some (.int .i64 0) from rfl)
    have z3 := (cell_of_block (o := 3) bM).trans (show _ = some (.slice none 0 0) from rfl)
    have yz := fun o => frozen_of_block (o := o) bM
    go_simp
    refine hK.out _ _ ?_ (fun hS4 => ?_)
    · exact ⟨trivial, fun h => absurd (h.symm.trans (show _ = true by kernel_rfl)) (by decide)⟩
    clear hK K hS3
    try simp only [Act.put, List.setIfInBounds_toArray, List.set_cons_zero, List.set_cons_succ]
    refine doneL (by kernel_rfl) ?_ _
    have FIN := hid (close4 (w := w) (wF := w3) (M := w.heap.size + 1 + 1) (lo := ((((w.alloc (Obj.cells #[.int .i64 kf, .slice (some ⟨bf, of, none⟩) 2 cf] 25)).alloc (Obj.cells #[.int .i64 kt, .slice (some ⟨bt, ot, none⟩) 2 ct] 25)).alloc (Obj.cells #[.int .i64 0, .int .i64 0, .int .i64 0, .slice none 0 0] 30))).heap.size) (co_two (k := 3) (g := 0) (l := 0) ((hb3.block _ (lt_of_block (alloc_new w2 (Obj.cells #[.int .i64 p0, .int .i64 p1, .int .i64 p2, .slice pa pn pc, .int .i64 q0, .int .i64 q1, .int .i64 q2, .slice qa qn qc] 30)))).trans (alloc_new w2 (Obj.cells #[.int .i64 p0, .int .i64 p1, .int .i64 p2, .slice pa pn pc, .int .i64 q0, .int .i64 q1, .int .i64 q2, .slice qa qn qc] 30))) (hat2.below (below_trans ((Below.refl w2.heap.size w2).alloc (Nat.le_refl _) (Obj.cells #[.int .i64 p0, .int .i64 p1, .int .i64 p2, .slice pa pn pc, .int .i64 q0, .int .i64 q1, .int .i64 q2, .slice qa qn qc] 30)) hb3)) ((HSS.out.1.below hB2).below (below_trans ((Below.refl w2.heap.size w2).alloc (Nat.le_refl _) (Obj.cells #[.int .i64 p0, .int .i64 p1, .int .i64 p2, .slice pa pn pc, .int .i64 q0, .int .i64 q1, .int .i64 q2, .slice qa qn qc] 30)) hb3))) (Fresh.row (((HSS.out.2.1.append hr2n (Nat.le_refl _) HSS.out.2.2.size hB2).comm).below (below_trans ((Below.refl w2.heap.size w2).alloc (Nat.le_refl _) (Obj.cells #[.int .i64 p0, .int .i64 p1, .int .i64 p2, .slice pa pn pc, .int .i64 q0, .int .i64 q1, .int .i64 q2, .slice qa qn qc] 30)) hb3)) ((hb3.block _ (lt_of_block (alloc_new w2 (Obj.cells #[.int .i64 p0, .int .i64 p1, .int .i64 p2, .slice pa pn pc, .int .i64 q0, .int .i64 q1, .int .i64 q2, .slice qa qn qc] 30)))).trans (alloc_new w2 (Obj.cells #[.int .i64 p0, .int .i64 p1, .int .i64 p2, .slice pa pn pc, .int .i64 q0, .int .i64 q1, .int .i64 q2, .slice qa qn qc] 30))) (Nat.le_trans HSS.out.2.2.size hB2.size) (fun x hx => (((HSS.out.2.1.append hr2n (Nat.le_refl _) HSS.out.2.2.size hB2).comm).2 x hx).2.1)) (by omega) (by have := HZ0.out; omega) (below_trans HB.out (below_trans HSS.out.2.2 hB3)))
    simp only [put4, Nat.zero_add] at FIN
    go_wp2_with fail
    exact bodyPost_ret (v := .agg #[.int .i64 3, .int .i64 0, .int .i64 0, .slice (some ⟨w2.heap.size, 0, none⟩) 2 2]) (by simp [results, Try.results39, go_sem, z0, z1, z2, z3]) rfl FIN.out
  refine AllReadyL.cons rfl (fun K hK => ?_) AllReadyL.nil
  go_simp
  refine hK.out _ _ ?_ (fun hS1 => ?_)
  · exact ⟨trivial, fun _ => HS0.out _ ((below_drew _).alloc (by simp) _)⟩
  clear hK K hS0
  try simp only [Act.put, List.setIfInBounds_toArray, List.set_cons_zero, List.set_cons_succ]
  refine readyL (rs := [9]) (by kernel_rfl) (by simp) ?_
  refine AllReadyL.cons rfl (fun K hK => ?_) AllReadyL.nil
  go_simp
  refine (coerce_from HIH.out (W0 := (((w.alloc (Obj.cells #[.int .i64 kf, .slice (some ⟨bf, of, none⟩) 2 cf] 25)).alloc (Obj.cells #[.int .i64 kt, .slice (some ⟨bt, ot, none⟩) 2 ct] 25)).alloc (Obj.cells #[.int .i64 0, .int .i64 0, .int .i64 0, .slice none 0 0] 30))) (((Below.refl ((((w.alloc (Obj.cells #[.int .i64 kf, .slice (some ⟨bf, of, none⟩) 2 cf] 25)).alloc (Obj.cells #[.int .i64 kt, .slice (some ⟨bt, ot, none⟩) 2 ct] 25)).alloc (Obj.cells #[.int .i64 0, .int .i64 0, .int .i64 0, .slice none 0 0] 30))).heap.size (((w.alloc (Obj.cells #[.int .i64 kf, .slice (some ⟨bf, of, none⟩) 2 cf] 25)).alloc (Obj.cells #[.int .i64 kt, .slice (some ⟨bt, ot, none⟩) 2 ct] 25)).alloc (Obj.cells #[.int .i64 0, .int .i64 0, .int .i64 0, .slice none 0 0] 30))).alloc (Nat.le_refl _) (Obj.cells #[.int .i64 0, .int .i64 0, .int .i64 0, .slice none 0 0] 30)).drew) HFU.out.2.2 hd HP.out.2.1 HP.out.2.2.2.1 HP.out.2.2.2.2.2.2 hl1 hl2 H1.out.2.1 H1.out.2.2.2).mono ?_
  rintro e w1 ⟨⟨v1, r1, rfl, hat1, hr1, hb1⟩, hU1⟩
  obtain ⟨q0, q1, q2, qn, qa, qc, rfl⟩ := hat1.agg
  have hB1 := below_trans hU1 hb1
  have hr1n := hr1.mono hU1.size
  refine hK.out _ _ ?_ (fun hS2 => ?_)
  · exact ⟨trivial, fun _ => HS0.out _ hB1⟩
  clear hK K hS1
  try simp only [Act.put, List.setIfInBounds_toArray, List.set_cons_zero, List.set_cons_succ]
  refine readyL (rs := [11]) (by kernel_rfl) (by simp) ?_
  refine AllReadyL.cons rfl (fun K hK => ?_) AllReadyL.nil
  have hE0 := alloc_new ((((w.alloc (Obj.cells #[.int .i64 kf, .slice (some ⟨bf, of, none⟩) 2 cf] 25)).alloc (Obj.cells #[.int .i64 kt, .slice (some ⟨bt, ot, none⟩) 2 ct] 25)).alloc (Obj.cells #[.int .i64 0, .int .i64 0, .int .i64 0, .slice none 0 0] 30))) (Obj.cells #[.int .i64 0, .int .i64 0, .int .i64 0, .slice none 0 0] 30)
  rw [HZ0.out] at hE0
  have hE1 := (hb1.block _ (lt_of_block hE0)).trans hE0
  have bM := hE1
  have z0 := (cell_of_block (o := 0) bM).trans (show _ = some (.int .i64 0) from rfl)
  have z1 := (cell_of_block (o := 1) bM).trans (show _ = some (.int .i64 0) from rfl)
  have z2 := (cell_of_block (o := 2) bM).trans (show _ = some (.int .i64 0) from rfl)
  have z3 := (cell_of_block (o := 3) bM).trans (show _ = some (.slice none 0 0) from rfl)
  have yz := fun o => frozen_of_block (o := o) bM
  go_simp
  clear z0 z1 z2 z3 yz
  refine hK.out _ _ ?_ (fun hS3 => ?_)
  · exact ⟨trivial, fun h => absurd (h.symm.trans (show _ = true by kernel_rfl)) (by decide)⟩
  clear hK K hS2
  try simp only [Act.put, List.setIfInBounds_toArray, List.set_cons_zero, List.set_cons_succ]
  refine doneL (by kernel_rfl) ?_ _
  obtain ⟨wS, hW, hES, hatS, hrS, hBS⟩ := sec_close (W := (((w.alloc (Obj.cells #[.int .i64 kf, .slice (some ⟨bf, of, none⟩) 2 cf] 25)).alloc (Obj.cells #[.int .i64 kt, .slice (some ⟨bt, ot, none⟩) 2 ct] 25)).alloc (Obj.cells #[.int .i64 0, .int .i64 0, .int .i64 0, .slice none 0 0] 30))) hE1 hat1 hr1n (fun y hy e => by have h1 := (hr1.2 y hy).1; have h2 : w.heap.size + 1 + 1 + 1 + 1 ≤ y := by { have h3 := HZ0.out; simpa [World.drew] using h1 }; omega) (by have := HZ0.out; omega) hB1
  simp only [put4, Nat.zero_add] at hW
  rw [← hW]
  clear hW hat1 hr1 hr1n
  have HES := hid hES
  have HSS := hid (And.intro hatS (And.intro hrS hBS))
  have s0 : wS.cell? ⟨w.heap.size + 1 + 1 + 1, 0, none⟩ = some (.int .i64 q0) := by rw [cell_of_block hES]; rfl
  have s1 : wS.cell? ⟨w.heap.size + 1 + 1 + 1, 1, none⟩ = some (.int .i64 q1) := by rw [cell_of_block hES]; rfl
  have s2 : wS.cell? ⟨w.heap.size + 1 + 1 + 1, 2, none⟩ = some (.int .i64 q2) := by rw [cell_of_block hES]; rfl
  have s3 : wS.cell? ⟨w.heap.size + 1 + 1 + 1, 3, none⟩ = some (.slice qa qn qc) := by rw [cell_of_block hES]; rfl
  clear hES hatS hrS
  have hSS := HS0.out _ hBS
  clear x0 x1 y0 y1 d0 d1 d2 d3 e0 e1 e2 e3
  obtain ⟨x0, x1, y0, y1, d0, d1, d2, d3, e0, e1, e2, e3⟩ := hSS
  clear hBS
  have HS1 := hid (show ∀ w', Below wS.heap.size wS w' → (fun w' => w'.cell? ⟨w.heap.size, 0, none⟩ = some (.int .i64 kf) ∧ w'.cell? ⟨w.heap.size, 1, none⟩ = some (.slice (some ⟨bf, of, none⟩) 2 cf) ∧ w'.cell? ⟨w.heap.size + 1, 0, none⟩ = some (.int .i64 kt) ∧ w'.cell? ⟨w.heap.size + 1, 1, none⟩ = some (.slice (some ⟨bt, ot, none⟩) 2 ct) ∧ w'.cell? ⟨bf, of, none⟩ = some (.int .i64 k1) ∧ w'.cell? ⟨bf, of + 1, none⟩ = some (.slice a1 n1 c1) ∧ w'.cell? ⟨bf, of + 2, none⟩ = some (.int .i64 k2) ∧ w'.cell? ⟨bf, of + 2 + 1, none⟩ = some (.slice a2 n2 c2) ∧ w'.cell? ⟨bt, ot, none⟩ = some (.int .i64 k3) ∧ w'.cell? ⟨bt, ot + 1, none⟩ = some (.slice a3 n3 c3) ∧ w'.cell? ⟨bt, ot + 2, none⟩ = some (.int .i64 k4) ∧ w'.cell? ⟨bt, ot + 2 + 1, none⟩ = some (.slice a4 n4 c4) ∧ w'.cell? ⟨w.heap.size + 1 + 1 + 1, 0, none⟩ = some (.int .i64 q0) ∧ w'.cell? ⟨w.heap.size + 1 + 1 + 1, 1, none⟩ = some (.int .i64 q1) ∧ w'.cell? ⟨w.heap.size + 1 + 1 + 1, 2, none⟩ = some (.int .i64 q2) ∧ w'.cell? ⟨w.heap.size + 1 + 1 + 1, 3, none⟩ = some (.slice qa qn qc)) w' from fun w' h => ⟨cell_keep x0 h, cell_keep x1 h, cell_keep y0 h, cell_keep y1 h, cell_keep d0 h, cell_keep d1 h, cell_keep d2 h, cell_keep d3 h, cell_keep e0 h, cell_keep e1 h, cell_keep e2 h, cell_keep e3 h, cell_keep s0 h, cell_keep s1 h, cell_keep s2 h, cell_keep s3 h⟩)
  go_wp2_with fail
  refine regionL (s := 13) (S0 := (fun w' => w'.cell? ⟨w.heap.size, 0, none⟩ = some (.int .i64 kf) ∧ w'.cell? ⟨w.heap.size, 1, none⟩ = some (.slice (some ⟨bf, of, none⟩) 2 cf) ∧ w'.cell? ⟨w.heap.size + 1, 0, none⟩ = some (.int .i64 kt) ∧ w'.cell? ⟨w.heap.size + 1, 1, none⟩ = some (.slice (some ⟨bt, ot, none⟩) 2 ct) ∧ w'.cell? ⟨bf, of, none⟩ = some (.int .i64 k1) ∧ w'.cell? ⟨bf, of + 1, none⟩ = some (.slice a1 n1 c1) ∧ w'.cell? ⟨bf, of + 2, none⟩ = some (.int .i64 k2) ∧ w'.cell? ⟨bf, of + 2 + 1, none⟩ = some (.slice a2 n2 c2) ∧ w'.cell? ⟨bt, ot, none⟩ = some (.int .i64 k3) ∧ w'.cell? ⟨bt, ot + 1, none⟩ = some (.slice a3 n3 c3) ∧ w'.cell? ⟨bt, ot + 2, none⟩ = some (.int .i64 k4) ∧ w'.cell? ⟨bt, ot + 2 + 1, none⟩ = some (.slice a4 n4 c4) ∧ w'.cell? ⟨w.heap.size + 1 + 1 + 1, 0, none⟩ = some (.int .i64 q0) ∧ w'.cell? ⟨w.heap.size + 1 + 1 + 1, 1, none⟩ = some (.int .i64 q1) ∧ w'.cell? ⟨w.heap.size + 1 + 1 + 1, 2, none⟩ = some (.int .i64 q2) ∧ w'.cell? ⟨w.heap.size + 1 + 1 + 1, 3, none⟩ = some (.slice qa qn qc))) (S1 := (fun _ => True)) (by kernel_rfl) (HS1.out _ (below_drew _)) (trivial) (fun hS0 => ?_)
  refine takeL0 (i := 0) (v := ?vra1) rfl rfl (by kernel_rfl) (by kernel_rfl) (by kernel_rfl) (by decide) (by kernel_rfl) (by kernel_rfl) (fun _ _ _ h => h) (Or.inl ⟨by rfl, ?hyra1⟩) (by assumption) ?_
  case hyra1 => (intro w hSw; (try dsimp only at hSw); go_simp; (try with_reducible rfl))
  try simp only [Act.put, List.setIfInBounds_toArray, List.set_cons_zero, List.set_cons_succ]
  refine takeL0 (i := 1) (v := ?vra2) rfl rfl (by kernel_rfl) (by kernel_rfl) (by kernel_rfl) (by decide) (by kernel_rfl) (by kernel_rfl) (fun _ _ _ h => h) (Or.inl ⟨by rfl, ?hyra2⟩) (by assumption) ?_
  case hyra2 => (intro w hSw; (try dsimp only at hSw); go_simp; (try with_reducible rfl))
  try simp only [Act.put, List.setIfInBounds_toArray, List.set_cons_zero, List.set_cons_succ]
  refine takeL0 (i := 2) (v := ?vra3) rfl rfl (by kernel_rfl) (by kernel_rfl) (by kernel_rfl) (by decide) (by kernel_rfl) (by kernel_rfl) (fun _ _ _ h => h) (Or.inl ⟨by rfl, ?hyra3⟩) (by assumption) ?_
  case hyra3 => (intro w hSw; (try dsimp only at hSw); go_simp; (try with_reducible rfl))
  try simp only [Act.put, List.setIfInBounds_toArray, List.set_cons_zero, List.set_cons_succ]
  refine takeL0 (i := 3) (v := ?vra4) rfl rfl (by kernel_rfl) (by kernel_rfl) (by kernel_rfl) (by decide) (by kernel_rfl) (by kernel_rfl) (fun _ _ _ h => h) (Or.inl ⟨by rfl, ?hyra4⟩) (by assumption) ?_
  case hyra4 => (intro w hSw; (try dsimp only at hSw); go_simp; (try with_reducible rfl))
  try simp only [Act.put, List.setIfInBounds_toArray, List.set_cons_zero, List.set_cons_succ]
  refine takeL0 (i := 4) (v := ?vra5) rfl rfl (by kernel_rfl) (by kernel_rfl) (by kernel_rfl) (by decide) (by kernel_rfl) (by kernel_rfl) (fun _ _ _ h => h) (Or.inl ⟨by rfl, ?hyra5⟩) (by assumption) ?_
  case hyra5 => (intro w hSw; (try dsimp only at hSw); go_simp; (try with_reducible rfl))
  try simp only [Act.put, List.setIfInBounds_toArray, List.set_cons_zero, List.set_cons_succ]
  refine takeL0 (i := 5) (v := ?vra6) rfl rfl (by kernel_rfl) (by kernel_rfl) (by kernel_rfl) (by decide) (by kernel_rfl) (by kernel_rfl) (fun _ _ _ h => h) (Or.inl ⟨by rfl, ?hyra6⟩) (by assumption) ?_
  case hyra6 => (intro w hSw; (try dsimp only at hSw); go_simp; (try with_reducible rfl))
  try simp only [Act.put, List.setIfInBounds_toArray, List.set_cons_zero, List.set_cons_succ]
  refine takeL0 (i := 6) (v := ?vra7) rfl rfl (by kernel_rfl) (by kernel_rfl) (by kernel_rfl) (by decide) (by kernel_rfl) (by kernel_rfl) (fun _ _ _ h => h) (Or.inl ⟨by rfl, ?hyra7⟩) (by assumption) ?_
  case hyra7 => (intro w hSw; (try dsimp only at hSw); go_simp; (try with_reducible rfl))
  try simp only [Act.put, List.setIfInBounds_toArray, List.set_cons_zero, List.set_cons_succ]
  refine takeL0 (i := 7) (v := ?vra8) rfl rfl (by kernel_rfl) (by kernel_rfl) (by kernel_rfl) (by decide) (by kernel_rfl) (by kernel_rfl) (fun _ _ _ h => h) (Or.inl ⟨by rfl, ?hyra8⟩) (by assumption) ?_
  case hyra8 => (intro w hSw; (try dsimp only at hSw); go_simp; (try with_reducible rfl))
  try simp only [Act.put, List.setIfInBounds_toArray, List.set_cons_zero, List.set_cons_succ]
  refine takeL0 (i := 8) (v := ?vra9) rfl rfl (by kernel_rfl) (by kernel_rfl) (by kernel_rfl) (by decide) (by kernel_rfl) (by kernel_rfl) (fun _ _ _ h => h) (Or.inl ⟨by rfl, ?hyra9⟩) (by assumption) ?_
  case hyra9 => (intro w hSw; (try dsimp only at hSw); go_simp; (try with_reducible rfl))
  try simp only [Act.put, List.setIfInBounds_toArray, List.set_cons_zero, List.set_cons_succ]
  refine takeL0 (i := 10) (v := ?vra10) rfl rfl (by kernel_rfl) (by kernel_rfl) (by kernel_rfl) (by decide) (by kernel_rfl) (by kernel_rfl) (fun _ _ _ h => h) (Or.inl ⟨by rfl, ?hyra10⟩) (by assumption) ?_
  case hyra10 => (intro w hSw; (try dsimp only at hSw); go_simp; (try with_reducible rfl))
  try simp only [Act.put, List.setIfInBounds_toArray, List.set_cons_zero, List.set_cons_succ]
  refine readyL (rs := [9]) (by kernel_rfl) (by simp) ?_
  refine AllReadyL.cons rfl (fun K hK => ?_) AllReadyL.nil
  go_simp
  refine (coerce_from HIH.out (W0 := wS) (l := l) (below_drew _) HFU.out.1 hd HP.out.1 HP.out.2.2.1 HP.out.2.2.2.2.2.1 hl1 hl2 (H1.out.1.below HSS.out.2.2) (H1.out.2.2.1.below HSS.out.2.2)).mono ?_
  rintro e w2 ⟨⟨v2, r2, rfl, hat2, hr2, hb2⟩, hU2⟩
  obtain ⟨p0, p1, p2, pn, pa, pc, rfl⟩ := hat2.agg
  have hB2 := below_trans hU2 hb2
  have hr2n := hr2.mono hU2.size
  refine hK.out _ _ ?_ (fun hS1 => ?_)
  · exact ⟨trivial, fun _ => HS1.out _ hB2⟩
  clear hK K hS0
  try simp only [Act.put, List.setIfInBounds_toArray, List.set_cons_zero, List.set_cons_succ]
  refine readyL (rs := [11]) (by kernel_rfl) (by simp) ?_
  refine AllReadyL.cons rfl (fun K hK => ?_) AllReadyL.nil
  go_simp
  refine hK.out _ _ ?_ (fun hS2 => ?_)
  · exact ⟨trivial, fun _ => HS1.out _ (hB2.alloc hB2.size (Obj.cells #[.int .i64 p0, .int .i64 p1, .int .i64 p2, .slice pa pn pc, .int .i64 q0, .int .i64 q1, .int .i64 q2, .slice qa qn qc] 30))⟩
  clear hK K hS1
  try simp only [Act.put, List.setIfInBounds_toArray, List.set_cons_zero, List.set_cons_succ]
  refine readyL (rs := [12]) (by kernel_rfl) (by simp) ?_
  refine AllReadyL.cons rfl (fun K hK => ?_) AllReadyL.nil
  go_simp
  refine (coercionOf_any _ _ _ _ _).mono ?_
  rintro e w3 ⟨rfl, hb3⟩
  have hB3 := below_trans (hB2.alloc hB2.size (Obj.cells #[.int .i64 p0, .int .i64 p1, .int .i64 p2, .slice pa pn pc, .int .i64 q0, .int .i64 q1, .int .i64 q2, .slice qa qn qc] 30)) hb3
  refine hK.out _ _ ?_ (fun hS3 => ?_)
  · exact ⟨trivial, fun _ => HS1.out _ hB3⟩
  clear hK K hS2
  try simp only [Act.put, List.setIfInBounds_toArray, List.set_cons_zero, List.set_cons_succ]
  refine readyL (rs := [13]) (by kernel_rfl) (by simp) ?_
  refine AllReadyL.cons rfl (fun K hK => ?_) AllReadyL.nil
  have bM := HM.out _ (below_trans HSS.out.2.2 hB3)
  have z0 := (cell_of_block (o := 0) bM).trans (show _ = some (.int .i64 0) from rfl)
  have z1 := (cell_of_block (o := 1) bM).trans (show _ = some (.int .i64 0) from rfl)
  have z2 := (cell_of_block (o := 2) bM).trans (show _ = some (.int .i64 0) from rfl)
  have z3 := (cell_of_block (o := 3) bM).trans (show _ = some (.slice none 0 0) from rfl)
  have yz := fun o => frozen_of_block (o := o) bM
  go_simp
  refine hK.out _ _ ?_ (fun hS4 => ?_)
  · exact ⟨trivial, fun h => absurd (h.symm.trans (show _ = true by kernel_rfl)) (by decide)⟩
  clear hK K hS3
  try simp only [Act.put, List.setIfInBounds_toArray, List.set_cons_zero, List.set_cons_succ]
  refine doneL (by kernel_rfl) ?_ _
  have FIN := hid (close4 (w := w) (wF := w3) (M := w.heap.size + 1 + 1) (lo := ((((w.alloc (Obj.cells #[.int .i64 kf, .slice (some ⟨bf, of, none⟩) 2 cf] 25)).alloc (Obj.cells #[.int .i64 kt, .slice (some ⟨bt, ot, none⟩) 2 ct] 25)).alloc (Obj.cells #[.int .i64 0, .int .i64 0, .int .i64 0, .slice none 0 0] 30))).heap.size) (co_two (k := 3) (g := 0) (l := 0) ((hb3.block _ (lt_of_block (alloc_new w2 (Obj.cells #[.int .i64 p0, .int .i64 p1, .int .i64 p2, .slice pa pn pc, .int .i64 q0, .int .i64 q1, .int .i64 q2, .slice qa qn qc] 30)))).trans (alloc_new w2 (Obj.cells #[.int .i64 p0, .int .i64 p1, .int .i64 p2, .slice pa pn pc, .int .i64 q0, .int .i64 q1, .int .i64 q2, .slice qa qn qc] 30))) (hat2.below (below_trans ((Below.refl w2.heap.size w2).alloc (Nat.le_refl _) (Obj.cells #[.int .i64 p0, .int .i64 p1, .int .i64 p2, .slice pa pn pc, .int .i64 q0, .int .i64 q1, .int .i64 q2, .slice qa qn qc] 30)) hb3)) ((HSS.out.1.below hB2).below (below_trans ((Below.refl w2.heap.size w2).alloc (Nat.le_refl _) (Obj.cells #[.int .i64 p0, .int .i64 p1, .int .i64 p2, .slice pa pn pc, .int .i64 q0, .int .i64 q1, .int .i64 q2, .slice qa qn qc] 30)) hb3))) (Fresh.row (((HSS.out.2.1.append hr2n (Nat.le_refl _) HSS.out.2.2.size hB2).comm).below (below_trans ((Below.refl w2.heap.size w2).alloc (Nat.le_refl _) (Obj.cells #[.int .i64 p0, .int .i64 p1, .int .i64 p2, .slice pa pn pc, .int .i64 q0, .int .i64 q1, .int .i64 q2, .slice qa qn qc] 30)) hb3)) ((hb3.block _ (lt_of_block (alloc_new w2 (Obj.cells #[.int .i64 p0, .int .i64 p1, .int .i64 p2, .slice pa pn pc, .int .i64 q0, .int .i64 q1, .int .i64 q2, .slice qa qn qc] 30)))).trans (alloc_new w2 (Obj.cells #[.int .i64 p0, .int .i64 p1, .int .i64 p2, .slice pa pn pc, .int .i64 q0, .int .i64 q1, .int .i64 q2, .slice qa qn qc] 30))) (Nat.le_trans HSS.out.2.2.size hB2.size) (fun x hx => (((HSS.out.2.1.append hr2n (Nat.le_refl _) HSS.out.2.2.size hB2).comm).2 x hx).2.1)) (by omega) (by have := HZ0.out; omega) (below_trans HB.out (below_trans HSS.out.2.2 hB3)))
  simp only [put4, Nat.zero_add] at FIN
  go_wp2_with fail
  exact bodyPost_ret (v := .agg #[.int .i64 3, .int .i64 0, .int .i64 0, .slice (some ⟨w2.heap.size, 0, none⟩) 2 2]) (by simp [results, Try.results39, go_sem, z0, z1, z2, z3]) rfl FIN.out
theorem coerce_any : ∀ n, coerceC n := by
  intro n
  induction n with
  | zero =>
    intro f t l d vf vt ff ft w hn hd hf ht
    exfalso
    cases d with
    | zero => simp [shp] at hf
    | succ d => rcases hn with hn | ⟨hn, _⟩ <;> omega
  | succ n ih =>
    intro f t l d vf vt ff ft w hn hd hf ht hc hl1 hl2 hatf hatt
    cases cstK hf ht hc with
    | id k h => rw [cst_id]; exact coerce_id k l h vf vt ff ft w hatf hatt
    | inj _ h =>
      rw [cst_inj h]
      refine coerce_inj n ih f l d vf vt ff ft w h ?_ hd hf hl1 hl2 hatf hatt
      rcases hn with hn | ⟨_, hk⟩
      · exact hn
      · exact absurd hk h
    | prj _ h =>
      rw [cst_prj h]
      refine coerce_prj n ih t l d vf vt ff ft w h ?_ hd ht hl1 hl2 hatf hatt
      rcases hn with hn | ⟨_, hk⟩
      · exact hn
      · exact absurd hk.symm h
    | two k f1 f2 t1 t2 h a1 a2 b1 b2 e1 e2 hd1 =>
      have h2 : 2 * (d - 1) ≤ n := by rcases hn with hn | ⟨hn, _⟩ <;> omega
      rw [cst_two h]
      rcases h with rfl | rfl
      · exact coerce_two4 n ih f1 f2 t1 t2 l (d - 1) vf vt ff ft w h2 (by omega) a1 a2 b1 b2 e1 e2 hl1 hl2 hatf hatt
      · exact coerce_two5 n ih f1 f2 t1 t2 l (d - 1) vf vt ff ft w h2 (by omega) a1 a2 b1 b2 e1 e2 hl1 hl2 hatf hatt
end Go.Proofs.Ytolhfcpmhhhjpaa
